/- cardamomref4.Meet: what two boxes let through both. -/
import Derived.Test.YtflpdekifkcfkabMeetd
import Derived.Test.YtflpdekifkcfkabRising
import Derived.Test.YtflpdekifkcfkabAstep
import Derived.Test.YtflpdekifkcfkabOne
import Derived.Deep.RegionHeld3
import Derived.BigRegion
import Derived.Deep.DeepCutAuto
import Derived.Deep.LoopGhost
namespace Go.Proofs.Ytflpdekifkcfkab
open Go.RowKit
set_option linter.unusedVariables false

/-- The sides so far, a tag. -/
def sofarT (r : Nat → Ev.Sd) (t : ByteArray) : Nat → Array Value
  | 0 => #[.int .i64 0, .int .i64 0, .int .i64 0, .int .i64 0, .int .i64 0, .int .i64 0, .int .i64 0, .int .i64 0, .int .i64 0, .int .i64 0, .int .i64 0, .int .i64 0, .string t, .slice none 0 0]
  | 1 => #[.int .i64 (r 0).how, .int .i64 (r 0).lo, .int .i64 (r 0).hi, .int .i64 0, .int .i64 0, .int .i64 0, .int .i64 0, .int .i64 0, .int .i64 0, .int .i64 0, .int .i64 0, .int .i64 0, .string t, .slice none 0 0]
  | 2 => #[.int .i64 (r 0).how, .int .i64 (r 0).lo, .int .i64 (r 0).hi, .int .i64 (r 1).how, .int .i64 (r 1).lo, .int .i64 (r 1).hi, .int .i64 0, .int .i64 0, .int .i64 0, .int .i64 0, .int .i64 0, .int .i64 0, .string t, .slice none 0 0]
  | 3 => #[.int .i64 (r 0).how, .int .i64 (r 0).lo, .int .i64 (r 0).hi, .int .i64 (r 1).how, .int .i64 (r 1).lo, .int .i64 (r 1).hi, .int .i64 (r 2).how, .int .i64 (r 2).lo, .int .i64 (r 2).hi, .int .i64 0, .int .i64 0, .int .i64 0, .string t, .slice none 0 0]
  | _ => #[.int .i64 (r 0).how, .int .i64 (r 0).lo, .int .i64 (r 0).hi, .int .i64 (r 1).how, .int .i64 (r 1).lo, .int .i64 (r 1).hi, .int .i64 (r 2).how, .int .i64 (r 2).lo, .int .i64 (r 2).hi, .int .i64 (r 3).how, .int .i64 (r 3).lo, .int .i64 (r 3).hi, .string t, .slice none 0 0]

theorem sofarT_step (r : Nat → Ev.Sd) (t : ByteArray) (k : Nat) (h : k < 4) : (((sofarT r t k).setIfInBounds (k * 3) (.int .i64 (r k).how)).setIfInBounds (k * 3 + 1) (.int .i64 (r k).lo)).setIfInBounds (k * 3 + 2) (.int .i64 (r k).hi) = sofarT r t (k + 1) := by
  have hc : k = 0 ∨ k = 1 ∨ k = 2 ∨ k = 3 := by omega
  rcases hc with rfl | rfl | rfl | rfl <;> rfl

theorem sofarT_zero (r : Nat → Ev.Sd) (t : ByteArray) (k : Nat) (h : k < 4) : (sofarT r t k)[k * 3]? = some (.int .i64 0) ∧ (sofarT r t k)[k * 3 + 1]? = some (.int .i64 0) ∧ (sofarT r t k)[k * 3 + 2]? = some (.int .i64 0) := by
  have hc : k = 0 ∨ k = 1 ∨ k = 2 ∨ k = 3 := by omega
  rcases hc with rfl | rfl | rfl | rfl <;> exact ⟨rfl, rfl, rfl⟩

theorem sofarT_tag (r : Nat → Ev.Sd) (t : ByteArray) (k : Nat) : (sofarT r t k)[12]? = some (.string t) ∧ (sofarT r t k)[13]? = some (.slice none 0 0) := by
  match k with
  | 0 => exact ⟨rfl, rfl⟩
  | 1 => exact ⟨rfl, rfl⟩
  | 2 => exact ⟨rfl, rfl⟩
  | 3 => exact ⟨rfl, rfl⟩
  | _ + 4 => exact ⟨rfl, rfl⟩

theorem rising_two (vo : Option Addr) (vc : Nat) (la lb rl : List (List UInt8)) (H : Hid (rl = Ev.rise (la ++ lb))) {B : Nat} (w : World) (hl : (la ++ lb).length ≤ 5000) (ho : w.ownsRow B 9 1 (.slice vo (la.length + lb.length) vc) (la.length + lb.length) (la.map encStr ++ lb.map encStr)) :
    Calls Try.prog 54 #[.slice vo (la.length + lb.length) vc] w fun e w' => ∃ o c, e = .returned (.slice o rl.length c) ∧ Nt w.heap.size w' o c rl ∧ Below w.heap.size w w' := by
  rw [H.out]
  rw [← List.length_append, ← List.map_append] at ho
  rw [← List.length_append]
  exact rising39 vo vc (la ++ lb) w hl (nt_of_own ho).txts

theorem set_cell_far {w : World} {b b' o o' : Nat} (h : b' ≠ b) (u : Value) : (w.setCell ⟨b', o', none⟩ u).cell? ⟨b, o, none⟩ = w.cell? ⟨b, o, none⟩ := World.cell?_setCell_other _ _ _ _ (fun e => h (congrArg Addr.block e))

theorem below_two {a w w' : World} (h : Below a.heap.size a w) (k : Below w.heap.size w w') : Below a.heap.size a w' := h.trans (k.mono h.size)

set_option maxRecDepth 100000 in
set_option maxHeartbeats 16000000 in
theorem rmeet_any (p q r : Nat → Ev.Sd) (kk : Nat → Bool) (HP : Hid (∀ k, k < 4 → (p k).ok ∧ (q k).ok)) (HRK : Hid (∀ k, k < 4 → r k = (Ev.meetS (p k) (q k)).getD Ev.nul ∧ kk k = (Ev.meetS (p k) (q k)).isSome))
    (kt1 kt2 ka good : Bool) (HG : Hid (good = (kk 0 && (kk 1 && (kk 2 && (kk 3 && ((kt1 && kt2) && !ka))))))) (ta tb tg : ByteArray) (HT : Hid (tg = Ev.longer ta tb)) (ao bo : Option Addr) (na ca nb cb : Nat) (rl : List (List UInt8)) (w : World)
    (s1 : ta.size ≤ 1000) (s2 : tb.size ≤ 1000) (la lb : List (List UInt8)) (hna : na = la.length) (hnb : nb = lb.length) (HL : Hid (rl = Ev.rise (la ++ lb) ∧ la.length ≤ 1000 ∧ lb.length ≤ 1000)) (NA NB : Nat) (ha : Nt NA w ao ca la) (hb : Nt NB w bo cb lb) (hrs : ∀ a ∈ rl, a.length ≤ 1000) (HK : Hid (kt1 = Ev.begins tg ta ∧ kt2 = Ev.begins tg tb ∧ ka = Ev.anyOf tg rl)) :
    Calls Try.prog 44 #[.agg #[.int .i64 (p 0).how, .int .i64 (p 0).lo, .int .i64 (p 0).hi, .int .i64 (p 1).how, .int .i64 (p 1).lo, .int .i64 (p 1).hi, .int .i64 (p 2).how, .int .i64 (p 2).lo, .int .i64 (p 2).hi, .int .i64 (p 3).how, .int .i64 (p 3).lo, .int .i64 (p 3).hi, .string ta, .slice ao na ca], .agg #[.int .i64 (q 0).how, .int .i64 (q 0).lo, .int .i64 (q 0).hi, .int .i64 (q 1).how, .int .i64 (q 1).lo, .int .i64 (q 1).hi, .int .i64 (q 2).how, .int .i64 (q 2).lo, .int .i64 (q 2).hi, .int .i64 (q 3).how, .int .i64 (q 3).lo, .int .i64 (q 3).hi, .string tb, .slice bo nb cb]] w fun e w' => Below w.heap.size w w' ∧ ((good = false ∧ e = .returned (.tuple #[Zbox, .bool false])) ∨
      (good = true ∧ ∃ o cap, e = .returned (.tuple #[.agg #[.int .i64 (r 0).how, .int .i64 (r 0).lo, .int .i64 (r 0).hi, .int .i64 (r 1).how, .int .i64 (r 1).lo, .int .i64 (r 1).hi, .int .i64 (r 2).how, .int .i64 (r 2).lo, .int .i64 (r 2).hi, .int .i64 (r 3).how, .int .i64 (r 3).lo, .int .i64 (r 3).hi, .string tg, .slice o rl.length cap], .bool true]) ∧ Nt w.heap.size w' o cap rl)) := by
  unfold Zbox
  have HNt : Hid (Nt NA w ao ca la ∧ Nt NB w bo cb lb ∧ na = la.length ∧ nb = lb.length) := ⟨ha, hb, hna, hnb⟩
  have HRS : Hid (∀ a ∈ rl, a.length ≤ 1000) := hrs
  clear ha hb hna hnb hrs
  go_enter Try.func44, Try.ntmps44
  go_wp2_with fail
  obtain ⟨W, hW⟩ : ∃ W, W = (((w.alloc (.cells #[.int .i64 (p 0).how, .int .i64 (p 0).lo, .int .i64 (p 0).hi, .int .i64 (p 1).how, .int .i64 (p 1).lo, .int .i64 (p 1).hi, .int .i64 (p 2).how, .int .i64 (p 2).lo, .int .i64 (p 2).hi, .int .i64 (p 3).how, .int .i64 (p 3).lo, .int .i64 (p 3).hi, .string ta, .slice ao na ca] 40)).alloc (.cells #[.int .i64 (q 0).how, .int .i64 (q 0).lo, .int .i64 (q 0).hi, .int .i64 (q 1).how, .int .i64 (q 1).lo, .int .i64 (q 1).hi, .int .i64 (q 2).how, .int .i64 (q 2).lo, .int .i64 (q 2).hi, .int .i64 (q 3).how, .int .i64 (q 3).lo, .int .i64 (q 3).hi, .string tb, .slice bo nb cb] 40)).alloc (.cells #[.int .i64 0, .int .i64 0, .int .i64 0, .int .i64 0, .int .i64 0, .int .i64 0, .int .i64 0, .int .i64 0, .int .i64 0, .int .i64 0, .int .i64 0, .int .i64 0, .string ⟨#[]⟩, .slice none 0 0] 40)).alloc (.cells #[.int .i64 0, .int .i64 0, .int .i64 0, .int .i64 0, .int .i64 0, .int .i64 0, .int .i64 0, .int .i64 0, .int .i64 0, .int .i64 0, .int .i64 0, .int .i64 0, .string ta, .slice none 0 0] 40) := ⟨_, rfl⟩
  rw [← hW]
  have e3 : W.heap[w.heap.size + 1 + 1 + 1]? = some (.cells (sofarT r ta 0) 40 (0, 0)) := by rw [hW]; exact heap_at _ _ (by simp)
  have e2 : W.heap[w.heap.size + 1 + 1]? = some (.cells #[.int .i64 0, .int .i64 0, .int .i64 0, .int .i64 0, .int .i64 0, .int .i64 0, .int .i64 0, .int .i64 0, .int .i64 0, .int .i64 0, .int .i64 0, .int .i64 0, .string ⟨#[]⟩, .slice none 0 0] 40 (0, 0)) := by rw [hW, heap_old _ _ (by simp)]; exact heap_at _ _ (by simp)
  have e1 : W.heap[w.heap.size + 1]? = some (.cells #[.int .i64 (q 0).how, .int .i64 (q 0).lo, .int .i64 (q 0).hi, .int .i64 (q 1).how, .int .i64 (q 1).lo, .int .i64 (q 1).hi, .int .i64 (q 2).how, .int .i64 (q 2).lo, .int .i64 (q 2).hi, .int .i64 (q 3).how, .int .i64 (q 3).lo, .int .i64 (q 3).hi, .string tb, .slice bo nb cb] 40 (0, 0)) := by rw [hW, heap_old _ _ (by simp <;> omega), heap_old _ _ (by simp)]; exact heap_at _ _ (by simp)
  have e0 : W.heap[w.heap.size]? = some (.cells #[.int .i64 (p 0).how, .int .i64 (p 0).lo, .int .i64 (p 0).hi, .int .i64 (p 1).how, .int .i64 (p 1).lo, .int .i64 (p 1).hi, .int .i64 (p 2).how, .int .i64 (p 2).lo, .int .i64 (p 2).hi, .int .i64 (p 3).how, .int .i64 (p 3).lo, .int .i64 (p 3).hi, .string ta, .slice ao na ca] 40 (0, 0)) := by rw [hW, heap_old _ _ (by simp <;> omega), heap_old _ _ (by simp <;> omega), heap_old _ _ (by simp)]; exact heap_at _ _ (by simp)
  have hs : w.heap.size + 1 + 1 + 1 < W.heap.size := by rw [hW]; simp
  have hbW : Below w.heap.size w W := by rw [hW]; exact ((((Below.refl _ _).alloc (Nat.le_refl _) _).alloc (by simp) _).alloc (by simp <;> omega) _).alloc (by simp <;> omega) _
  clear hW
  go_loopg [7] 4 (fun g i wr => ∃ k : Nat, k ≤ 4 ∧ g = 4 - k ∧ i = .int .i64 k ∧ Hid (∀ j, j < k → kk j = true) ∧ wr.heap[w.heap.size + 1 + 1 + 1]? = some (.cells (sofarT r ta k) 40 (0, 0)) ∧ Below (w.heap.size + 1 + 1 + 1) W wr)
  case atStart => exact ⟨0, by omega, rfl, rfl, fun j h => by omega, e3, Below.refl _ _⟩
  case round =>
    obtain ⟨k, hk, hgk, rfl, H, E3, hbel⟩ := hrel
    have HGK : Hid (gk = 4 - k) := hgk
    clear hgk
    have hsr := hbel.size
    have m0 : w.heap.size < wr.heap.size := by omega
    have m1 : w.heap.size + 1 < wr.heap.size := by omega
    have m2 : w.heap.size + 1 + 1 < wr.heap.size := by omega
    have m3 : w.heap.size + 1 + 1 + 1 < wr.heap.size := by omega
    have E0 := (hbel.block (w.heap.size) (by omega)).trans e0
    have E1 := (hbel.block (w.heap.size + 1) (by omega)).trans e1
    have E2 := (hbel.block (w.heap.size + 1 + 1) (by omega)).trans e2
    have HB : Hid (Below w.heap.size w W) := hbW
    clear e0 e1 e2 e3 hbW
    by_cases hk4 : k < 4
    · obtain ⟨C0, _⟩ := cells_of E0
      obtain ⟨C1, _⟩ := cells_of E1
      obtain ⟨ph, pl, pu, hp⟩ : ∃ ph pl pu, p k = ⟨ph, pl, pu⟩ := ⟨_, _, _, rfl⟩
      obtain ⟨qh, ql, qu, hq⟩ : ∃ qh ql qu, q k = ⟨qh, ql, qu⟩ := ⟨_, _, _, rfl⟩
      obtain ⟨a0, a1, a2⟩ := side_at p (.string ta) (.slice ao na ca) k hk4
      obtain ⟨b0, b1, b2⟩ := side_at q (.string tb) (.slice bo nb cb) k hk4
      have A0 := (C0 _).trans a0
      have A1 := (C0 _).trans a1
      have A2 := (C0 _).trans a2
      have B0 := (C1 _).trans b0
      have B1 := (C1 _).trans b1
      have B2 := (C1 _).trans b2
      rw [hp] at A0 A1 A2
      rw [hq] at B0 B1 B2
      simp only at A0 A1 A2 B0 B1 B2
      obtain ⟨hr, hkk⟩ := HRK.out k hk4
      obtain ⟨okp, okq⟩ := HP.out k hk4
      rw [hp, hq] at hr hkk
      rw [hp] at okp
      rw [hq] at okq
      have HR : Hid (r k = (Ev.meetS ⟨ph, pl, pu⟩ ⟨qh, ql, qu⟩).getD Ev.nul ∧ kk k = (Ev.meetS ⟨ph, pl, pu⟩ ⟨qh, ql, qu⟩).isSome ∧ (Ev.Sd.ok ⟨ph, pl, pu⟩ ∧ Ev.Sd.ok ⟨qh, ql, qu⟩)) := ⟨hr, hkk, okp, okq⟩
      clear a0 a1 a2 b0 b1 b2 C0 C1 hp hq E0 E1 hr hkk okp okq
      have hki : (k : Int) < 4 := by omega
      go_wp2_with fail
      go_cut [8, 9] (fun s8 s9 wx => ∃ n1 n2, s8 = .pointer (some ⟨n1, 0, none⟩) ∧ s9 = .pointer (some ⟨n2, 0, none⟩) ∧ wx.cell? ⟨n1, 0, none⟩ = some (.int .i64 ph) ∧ wx.cell? ⟨n1, 1, none⟩ = some (.int .i64 pl) ∧ wx.cell? ⟨n1, 2, none⟩ = some (.int .i64 pu) ∧ wx.cell? ⟨n2, 0, none⟩ = some (.int .i64 qh) ∧ wx.cell? ⟨n2, 1, none⟩ = some (.int .i64 ql) ∧ wx.cell? ⟨n2, 2, none⟩ = some (.int .i64 qu) ∧ n1 < wx.heap.size ∧ n2 < wx.heap.size ∧ Below wr.heap.size wr wx)
      case first =>
        go_region
        · go_wp2_with fail
          go_meet
          exact ⟨wr.heap.size, wr.heap.size + 1, rfl, rfl, by simp, by simp, by simp, by simp, by simp, by simp, by simp <;> omega, by simp <;> omega, (((Below.refl _ _).alloc (Nat.le_refl _) _).alloc (by simp) _).drew⟩
        · go_wp2_with fail
          go_meet
          exact ⟨wr.heap.size + 1, wr.heap.size, rfl, rfl, by simp, by simp, by simp, by simp, by simp, by simp, by simp <;> omega, by simp <;> omega, (((Below.refl _ _).alloc (Nat.le_refl _) _).alloc (by simp) _).drew⟩
      case rest =>
        obtain ⟨n1, n2, rfl, rfl, x0, x1, x2, z0, z1, z2, nA, nB, hbV⟩ := hcut
        have HV : Hid (Below wr.heap.size wr wc) := hbV
        have G3 := (hbV.block _ m3).trans E3
        have G2 := (hbV.block _ m2).trans E2
        obtain ⟨C2, F2⟩ := cells_of G2
        obtain ⟨C3, F3⟩ := cells_of G3
        have y0 : wc.cell? ⟨w.heap.size + 1 + 1 + 1, k * 3, none⟩ = some (.int .i64 0) := (C3 _).trans (sofarT_zero r ta k hk4).1
        have y1 : wc.cell? ⟨w.heap.size + 1 + 1 + 1, k * 3 + 1, none⟩ = some (.int .i64 0) := (C3 _).trans (sofarT_zero r ta k hk4).2.1
        have y2 : wc.cell? ⟨w.heap.size + 1 + 1 + 1, k * 3 + 2, none⟩ = some (.int .i64 0) := (C3 _).trans (sofarT_zero r ta k hk4).2.2
        have hsV := hbV.size
        have m3V : w.heap.size + 1 + 1 + 1 < wc.heap.size := by omega
        have m2V : w.heap.size + 1 + 1 < wc.heap.size := by omega
        clear hbV C3 E2 E3 A0 A1 A2 B0 B1 B2
        by_cases hph : ph = 0
        · have g : (ph == 0) = true := by simp [hph]
          have HPH : Hid (ph = 0) := hph
          clear hph
          have hrk : r k = ⟨qh, ql, qu⟩ ∧ kk k = true := by rw [HR.out.1, HR.out.2.1]; unfold Ev.meetS; rw [if_pos HPH.out]; exact ⟨rfl, rfl⟩
          have HRR : Hid (r k = ⟨qh, ql, qu⟩ ∧ kk k = true) := hrk
          clear hrk HR C2 F2 G2
          have GG : Hid (wc.heap[w.heap.size + 1 + 1 + 1]? = some (.cells (sofarT r ta k) 40 (0, 0))) := G3
          clear G3
          go_wp2
          go_roundg (4 - (k + 1))
          case measure => have := HGK.out; omega
          case rel =>
            refine ⟨k + 1, by omega, rfl, by go_num, (fun j hj => ?_), ?_, ?_⟩
            · by_cases e : j = k
              · subst e; exact HRR.out.2
              · exact H.out j (by omega)
            · refine (set_block (set_block (set_block GG.out _) _) _).trans ?_
              have e := sofarT_step r ta k hk4
              rw [HRR.out.1] at e
              rw [e]
            · exact (((hbel.trans (HV.out.mono (by omega))).setCell (Nat.le_refl _) _).setCell (Nat.le_refl _) _).setCell (Nat.le_refl _) _
        · have g : (ph == 0) = false := by simpa using hph
          by_cases hqh : qh = 0
          · have g1 : (qh == 0) = true := by simp [hqh]
            have HQH : Hid (qh = 0 ∧ ph ≠ 0) := ⟨hqh, hph⟩
            clear hqh hph
            have hrk : r k = ⟨ph, pl, pu⟩ ∧ kk k = true := by rw [HR.out.1, HR.out.2.1]; unfold Ev.meetS; rw [if_neg HQH.out.2, if_pos HQH.out.1]; exact ⟨rfl, rfl⟩
            have HRR : Hid (r k = ⟨ph, pl, pu⟩ ∧ kk k = true) := hrk
            clear hrk HR C2 F2 G2
            have GG : Hid (wc.heap[w.heap.size + 1 + 1 + 1]? = some (.cells (sofarT r ta k) 40 (0, 0))) := G3
            clear G3
            go_wp2
            go_roundg (4 - (k + 1))
            case measure => have := HGK.out; omega
            case rel =>
              refine ⟨k + 1, by omega, rfl, by go_num, (fun j hj => ?_), ?_, ?_⟩
              · by_cases e : j = k
                · subst e; exact HRR.out.2
                · exact H.out j (by omega)
              · refine (set_block (set_block (set_block GG.out _) _) _).trans ?_
                have e := sofarT_step r ta k hk4
                rw [HRR.out.1] at e
                rw [e]
              · exact (((hbel.trans (HV.out.mono (by omega))).setCell (Nat.le_refl _) _).setCell (Nat.le_refl _) _).setCell (Nat.le_refl _) _
          · have g1 : (qh == 0) = false := by simpa using hqh
            by_cases hpq : ph = qh
            · have g2 : (ph != qh) = false := by simp [hpq]
              have g2' : (ph == qh) = true := by simp [hpq]
              by_cases h2 : ph = 2
              · have g3 : (ph == 2) = true := by simp [h2]
                have HH2 : Hid (ph = 2 ∧ ph ≠ 0 ∧ qh ≠ 0 ∧ ph = qh) := ⟨h2, hph, hqh, hpq⟩
                clear h2 hph hqh hpq
                have hrk : r k = ⟨ph, pl, pu⟩ ∧ kk k = true := by rw [HR.out.1, HR.out.2.1]; unfold Ev.meetS; rw [if_neg HH2.out.2.1, if_neg HH2.out.2.2.1, if_neg (by simpa using HH2.out.2.2.2), if_pos HH2.out.1]; exact ⟨rfl, rfl⟩
                have HRR : Hid (r k = ⟨ph, pl, pu⟩ ∧ kk k = true) := hrk
                clear hrk HR C2 F2 G2
                have GG : Hid (wc.heap[w.heap.size + 1 + 1 + 1]? = some (.cells (sofarT r ta k) 40 (0, 0))) := G3
                clear G3
                go_wp2
                go_roundg (4 - (k + 1))
                case measure => have := HGK.out; omega
                case rel =>
                  refine ⟨k + 1, by omega, rfl, by go_num, (fun j hj => ?_), ?_, ?_⟩
                  · by_cases e : j = k
                    · subst e; exact HRR.out.2
                    · exact H.out j (by omega)
                  · refine (set_block (set_block (set_block GG.out _) _) _).trans ?_
                    have e := sofarT_step r ta k hk4
                    rw [HRR.out.1] at e
                    rw [e]
                  · exact (((hbel.trans (HV.out.mono (by omega))).setCell (Nat.le_refl _) _).setCell (Nat.le_refl _) _).setCell (Nat.le_refl _) _
              · have g3 : (ph == 2) = false := by simpa using h2
                have HH1 : Hid (ph ≠ 2 ∧ ph ≠ 0 ∧ qh ≠ 0 ∧ ph = qh) := ⟨h2, hph, hqh, hpq⟩
                clear h2 hph hqh hpq
                obtain ⟨M, hM⟩ : ∃ M, M = max pl ql := ⟨_, rfl⟩
                obtain ⟨mi, hmi⟩ : ∃ mi, mi = min pu qu := ⟨_, rfl⟩
                have HM : Hid (M = max pl ql ∧ mi = min pu qu) := ⟨hM, hmi⟩
                clear hM hmi
                generalize wc = V0 at *
                go_upto_region 6 with fail
                go_cut [10] (fun s10 wx => s10 = .pointer (some ⟨V0.heap.size, 0, none⟩) ∧ wx.cell? ⟨V0.heap.size, 0, none⟩ = some (.int .i64 1) ∧ wx.cell? ⟨V0.heap.size, 1, none⟩ = some (.int .i64 M) ∧ wx.cell? ⟨V0.heap.size, 2, none⟩ = some (.int .i64 mi) ∧ V0.heap.size < wx.heap.size ∧ Below V0.heap.size V0 wx)
                case first =>
                  go_wp2
                  all_goals
                    go_meet
                    have hm := HM.out.1
                    have hn := HM.out.2
                    refine ⟨rfl, by simp, by simp [hm], by simp [hn], by simp, (Below.refl _ _).alloc (Nat.le_refl _) _⟩
                case rest =>
                  obtain ⟨rfl, t0, t1, t2, nC, hbc⟩ := hcut
                  have HV2 : Hid (Below wr.heap.size wr wc) := HV.out.trans (hbc.mono hsV)
                  have G3' := (hbc.block _ m3V).trans G3
                  have G2' := (hbc.block _ m2V).trans G2
                  clear C2 F2 F3 y0 y1 y2 x0 x1 x2 z0 z1 z2 HV G3 G2 hbc
                  obtain ⟨C2, F2⟩ := cells_of G2'
                  obtain ⟨C3, F3⟩ := cells_of G3'
                  have y0 : wc.cell? ⟨w.heap.size + 1 + 1 + 1, k * 3, none⟩ = some (.int .i64 0) := (C3 _).trans (sofarT_zero r ta k hk4).1
                  have y1 : wc.cell? ⟨w.heap.size + 1 + 1 + 1, k * 3 + 1, none⟩ = some (.int .i64 0) := (C3 _).trans (sofarT_zero r ta k hk4).2.1
                  have y2 : wc.cell? ⟨w.heap.size + 1 + 1 + 1, k * 3 + 2, none⟩ = some (.int .i64 0) := (C3 _).trans (sofarT_zero r ta k hk4).2.2
                  have G3 := G3'
                  have G2 := G2'
                  have HV := HV2
                  have hsV' := HV2.out.size
                  clear C3 G3' G2' HV2
                  by_cases hml : mi < M
                  · have hrk : kk k = false := by rw [HR.out.2.1]; unfold Ev.meetS; rw [if_neg HH1.out.2.1, if_neg HH1.out.2.2.1, if_neg (by simpa using HH1.out.2.2.2), if_neg HH1.out.1, if_pos (by show min pu qu < max pl ql; rw [← HM.out.1, ← HM.out.2]; exact hml)]; rfl
                    have HRR : Hid (kk k = false) := hrk
                    clear hrk HR y0 y1 y2 F3 G3 G2
                    go_wp2
                    refine bodyPost_ret (v := .tuple #[.agg #[.int .i64 0, .int .i64 0, .int .i64 0, .int .i64 0, .int .i64 0, .int .i64 0, .int .i64 0, .int .i64 0, .int .i64 0, .int .i64 0, .int .i64 0, .int .i64 0, .string ⟨#[]⟩, .slice none 0 0], .bool false]) (by simp [results, Try.results44, go_sem, C2]) rfl ⟨?_, .inl ⟨?_, rfl⟩⟩
                    · repeat (refine Below.setCell ?_ (by simp <;> omega) _)
                      exact (HB.out.trans (hbel.mono (by omega))).trans (HV.out.mono (by omega))
                    · rw [HG.out]
                      have hc : k = 0 ∨ k = 1 ∨ k = 2 ∨ k = 3 := by omega
                      have hf := HRR.out
                      rcases hc with rfl | rfl | rfl | rfl <;> rw [hf] <;> simp
                  · have hrk : r k = ⟨1, M, mi⟩ ∧ kk k = true := by rw [HR.out.1, HR.out.2.1]; unfold Ev.meetS; rw [if_neg HH1.out.2.1, if_neg HH1.out.2.2.1, if_neg (by simpa using HH1.out.2.2.2), if_neg HH1.out.1, if_neg (by show ¬ min pu qu < max pl ql; rw [← HM.out.1, ← HM.out.2]; exact hml)]; refine ⟨?_, rfl⟩; show Ev.Sd.mk 1 (max pl ql) (min pu qu) = _; rw [← HM.out.1, ← HM.out.2]
                    have HRR : Hid (r k = ⟨1, M, mi⟩ ∧ kk k = true) := hrk
                    clear hrk HR C2 F2 G2
                    have GG : Hid (wc.heap[w.heap.size + 1 + 1 + 1]? = some (.cells (sofarT r ta k) 40 (0, 0))) := G3
                    clear G3
                    go_wp2
                    go_roundg (4 - (k + 1))
                    case measure => have := HGK.out; omega
                    case rel =>
                      refine ⟨k + 1, by omega, rfl, by go_num, (fun j hj => ?_), ?_, ?_⟩
                      · by_cases e : j = k
                        · subst e; exact HRR.out.2
                        · exact H.out j (by omega)
                      · refine (set_block (set_block (set_block GG.out _) _) _).trans ?_
                        have e := sofarT_step r ta k hk4
                        rw [HRR.out.1] at e
                        rw [e]
                      · exact (((hbel.trans (HV.out.mono (by omega))).setCell (Nat.le_refl _) _).setCell (Nat.le_refl _) _).setCell (Nat.le_refl _) _
            · have g2 : (ph != qh) = true := by simpa using hpq
              have g2' : (ph == qh) = false := by simpa using hpq
              have HHC : Hid (ph ≠ 0 ∧ qh ≠ 0 ∧ ph ≠ qh) := ⟨hph, hqh, hpq⟩
              clear hph hqh hpq
              have hrk : kk k = false := by rw [HR.out.2.1]; unfold Ev.meetS; rw [if_neg HHC.out.1, if_neg HHC.out.2.1, if_pos HHC.out.2.2]; rfl
              have HRR : Hid (kk k = false) := hrk
              clear hrk HR y0 y1 y2 F3 G3 G2
              go_wp2
              refine bodyPost_ret (v := .tuple #[.agg #[.int .i64 0, .int .i64 0, .int .i64 0, .int .i64 0, .int .i64 0, .int .i64 0, .int .i64 0, .int .i64 0, .int .i64 0, .int .i64 0, .int .i64 0, .int .i64 0, .string ⟨#[]⟩, .slice none 0 0], .bool false]) (by simp [results, Try.results44, go_sem, C2]) rfl ⟨?_, .inl ⟨?_, rfl⟩⟩
              · repeat (refine Below.setCell ?_ (by simp <;> omega) _)
                exact (HB.out.trans (hbel.mono (by omega))).trans (HV.out.mono (by omega))
              · rw [HG.out]
                have hc : k = 0 ∨ k = 1 ∨ k = 2 ∨ k = 3 := by omega
                have hf := HRR.out
                rcases hc with rfl | rfl | rfl | rfl <;> rw [hf] <;> simp
    · obtain rfl : k = 4 := by omega
      have hbr : Below w.heap.size w wr := HB.out.trans (hbel.mono (by omega))
      have hgood : Hid (good = ((kt1 && kt2) && !ka)) := HG.out.trans (by rw [H.out 0 (by omega), H.out 1 (by omega), H.out 2 (by omega), H.out 3 (by omega)]; simp)
      obtain ⟨C0, _⟩ := cells_of E0
      obtain ⟨C1, _⟩ := cells_of E1
      obtain ⟨C3, F3⟩ := cells_of E3
      simp only [sofarT] at C3
      have stg : tg.size ≤ 1000 := by rw [HT.out]; exact Ev.size_longer ta tb s1 s2
      have HBR : Hid (Below w.heap.size w wr) := hbr
      have hsw := hbr.size
      clear H HG HB hbel hs hk4 HRK HP hbr HGK
      go_upto_if 85 with fail
      go_cut [] (fun wx => wx.heap[w.heap.size + 1 + 1 + 1]? = some (.cells (sofarT r tg 4) 40 (0, 0)) ∧ Below (w.heap.size + 1 + 1 + 1) wr wx)
      case first =>
        have G : Hid (wr.heap[w.heap.size + 1 + 1 + 1]? = some (.cells (sofarT r ta 4) 40 (0, 0))) := E3
        clear E0 E1 E2 E3
        by_cases hlt : ta.size < tb.size
        · have e : tg = tb := by rw [HT.out]; unfold Ev.longer; rw [if_pos hlt]
          have HE : Hid (tg = tb) := e
          clear e
          go_wp2
          go_meet
          exact ⟨by rw [HE.out]; exact set_block G.out _, (Below.refl _ _).setCell (p := ⟨w.heap.size + 1 + 1 + 1, 12, none⟩) (Nat.le_refl _) _⟩
        · have e : tg = ta := by rw [HT.out]; unfold Ev.longer; rw [if_neg hlt]
          have HE : Hid (tg = ta) := e
          clear e
          go_wp2
          go_meet
          exact ⟨by rw [HE.out]; exact G.out, Below.refl _ _⟩
      case rest =>
        obtain ⟨K3, hbc⟩ := hcut
        have K0 := (hbc.block (w.heap.size) (by omega)).trans E0
        have K1 := (hbc.block (w.heap.size + 1) (by omega)).trans E1
        have K2 := (hbc.block (w.heap.size + 1 + 1) (by omega)).trans E2
        have hsc := hbc.size
        have hbw : Below w.heap.size w wc := HBR.out.trans (hbc.mono (by omega))
        clear E0 E1 E2 E3 C0 C1 C3 F3 HBR hbc
        obtain ⟨C0, _⟩ := cells_of K0
        obtain ⟨C1, _⟩ := cells_of K1
        obtain ⟨C2, F2⟩ := cells_of K2
        obtain ⟨C3, F3⟩ := cells_of K3
        simp only [sofarT] at C3
        have b1 := fun w' => begins22 tg ta w' stg s1
        have b2 := fun w' => begins22 tg tb w' stg s2
        rw [← HK.out.1] at b1
        rw [← HK.out.2.1] at b2
        have HBW : Hid (Below w.heap.size w wc) := hbw
        have HKK : Hid (wc.heap[w.heap.size]? = _ ∧ wc.heap[w.heap.size + 1]? = _ ∧ wc.heap[w.heap.size + 1 + 1]? = _ ∧ wc.heap[w.heap.size + 1 + 1 + 1]? = some (.cells (sofarT r tg 4) 40 (0, 0))) := ⟨K0, K1, K2, K3⟩
        clear K0 K1 K2 K3 hbw HT
        cases kt1 with
        | false =>
          clear HKK C1 F3
          go_wp2_with fail
          refine (b1 _).mono ?_
          rintro e w2 ⟨rfl, rfl⟩
          clear C0 C3 b1 b2
          go_wp2
          refine bodyPost_ret (v := .tuple #[.agg #[.int .i64 0, .int .i64 0, .int .i64 0, .int .i64 0, .int .i64 0, .int .i64 0, .int .i64 0, .int .i64 0, .int .i64 0, .int .i64 0, .int .i64 0, .int .i64 0, .string ⟨#[]⟩, .slice none 0 0], .bool false]) (by simp [results, Try.results44, go_sem, C2]) rfl ⟨?_, .inl ⟨by rw [hgood.out]; simp, rfl⟩⟩
          repeat (refine Below.setCell ?_ (by simp <;> omega) _)
          exact HBW.out
        | true =>
          cases kt2 with
          | false =>
            go_wp2_with fail
            refine (b1 _).mono ?_
            rintro e w2 ⟨rfl, rfl⟩
            clear HKK
            go_wp2_with fail
            refine (b2 _).mono ?_
            rintro e w3 ⟨rfl, rfl⟩
            clear C0 C1 C3 F3 b1 b2
            go_wp2
            refine bodyPost_ret (v := .tuple #[.agg #[.int .i64 0, .int .i64 0, .int .i64 0, .int .i64 0, .int .i64 0, .int .i64 0, .int .i64 0, .int .i64 0, .int .i64 0, .int .i64 0, .int .i64 0, .int .i64 0, .string ⟨#[]⟩, .slice none 0 0], .bool false]) (by simp [results, Try.results44, go_sem, C2]) rfl ⟨?_, .inl ⟨by rw [hgood.out]; simp, rfl⟩⟩
            repeat (refine Below.setCell ?_ (by simp <;> omega) _)
            exact HBW.out
          | true =>
            go_wp2_with fail
            refine (b1 _).mono ?_
            rintro e w2 ⟨rfl, rfl⟩
            go_wp2_with fail
            refine (b2 _).mono ?_
            rintro e w3 ⟨rfl, rfl⟩
            clear b1 b2 C2 F2
            obtain ⟨nta, ntb, rfl, rfl⟩ := HNt.out
            obtain ⟨hrl0, lla, llb⟩ := HL.out
            have HRL : Hid (rl = Ev.rise (la ++ lb)) := hrl0
            clear hrl0
            have a13 : w3.cell? ⟨w.heap.size, 13, none⟩ = some (.slice ao la.length ca) := (C0 13).trans rfl
            have b13 : w3.cell? ⟨w.heap.size + 1, 13, none⟩ = some (.slice bo lb.length cb) := (C1 13).trans rfl
            have c13 : w3.cell? ⟨w.heap.size + 1 + 1 + 1, 13, none⟩ = some (.slice none 0 0) := (C3 13).trans rfl
            have f13 : w3.frozen? ⟨w.heap.size + 1 + 1 + 1, 13, none⟩ = false := F3 13
            have d0 : w.heap.size + 1 + 1 + 1 ≠ w.heap.size := by omega
            have d1 : w.heap.size + 1 + 1 + 1 ≠ w.heap.size + 1 := by omega
            have m0c : w.heap.size < w3.heap.size := by omega
            have m1c : w.heap.size + 1 < w3.heap.size := by omega
            have m3c : w.heap.size + 1 + 1 + 1 < w3.heap.size := by omega
            have srcA := (nta.below HBW.out).src
            have srcB := (ntb.below HBW.out).src
            have hX : Below w3.heap.size w3 (w3.alloc (.cells #[] 9)).drew := ((Below.refl _ _).alloc (Nat.le_refl _) _).drew
            have srcA1 := srcA.below hX
            have oX := (own_empty w3 9 1).drew
            have k1 : 0 + la.length ≤ maxLen := by unfold maxLen; omega
            have k2 : (0 + la.length) * 16 ≤ 140737488355328 := by omega
            have k3 : w3.heap.size ≤ (w3.alloc (.cells #[] 9)).drew.heap.size := hX.size
            have k4 : la.length + lb.length ≤ maxLen := by unfold maxLen; omega
            have k5 : (la.length + lb.length) * 16 ≤ 140737488355328 := by omega
            have k6 : (la ++ lb).length ≤ 5000 := by rw [List.length_append]; omega
            obtain ⟨i0, hi, hz0, hz1, hz2⟩ := info_parts Try.info9
            have HC : Hid (Src w3 1 ao la.length ca (la.map encStr) ∧ Src w3 1 bo lb.length cb (lb.map encStr) ∧ Below w3.heap.size w3 (w3.alloc (.cells #[] 9)).drew ∧ Src (w3.alloc (.cells #[] 9)).drew 1 ao la.length ca (la.map encStr) ∧ (w3.alloc (.cells #[] 9)).drew.ownsRow w3.heap.size 9 1 (.slice (some ⟨w3.heap.size, 0, none⟩) 0 0) 0 [] ∧ w3.heap.size ≤ (w3.alloc (.cells #[] 9)).drew.heap.size) := ⟨srcA, srcB, hX, srcA1, oX, k3⟩
            have HI : Hid (Try.prog.info? 9 = some i0 ∧ i0.zero = some (.string ⟨#[]⟩) ∧ i0.size = 1 ∧ i0.bytes = 16) := ⟨hi, hz0, hz1, hz2⟩
            clear srcA srcB hX srcA1 oX k3 nta ntb HNt C0 C1 C3 F3 hi hz0 hz1 hz2 HL
            go_wp2_with fail
            go_region_held3 (fun w' => w'.cell? ⟨w.heap.size, 13, none⟩ = some (.slice ao la.length ca) ∧ w'.cell? ⟨w.heap.size + 1, 13, none⟩ = some (.slice bo lb.length cb))
              (go_keep)
              (first
                | (refine step_append_src _ w3 (by rfl) (.tmp 104) (.tmp 106) 38 (by rfl) w3.heap.size 9 i0 (.string ⟨#[]⟩) 1 16 Try.underlying38 HI.out.1 HI.out.2.1 HI.out.2.2.1 HI.out.2.2.2 rfl (by decide) _ 0 [] (by rfl) HC.out.2.2.2.2.1 ao la.length ca (la.map encStr) (by rfl) HC.out.2.2.2.1 k1 k2 HC.out.2.2.2.2.2 HC.out.2.2.1 ?_; intro vo1 vc1 w4 ho1 hb4; simp only [Nat.zero_add, List.nil_append] at ho1 ⊢; have sA4 := (hb4.cell (p := ⟨w.heap.size, 13, none⟩) m0c).trans a13; have sB4 := (hb4.cell (p := ⟨w.heap.size + 1, 13, none⟩) m1c).trans b13)
                | (refine step_append_src _ w3 (by rfl) (.tmp 107) (.tmp 109) 38 (by rfl) w3.heap.size 9 i0 (.string ⟨#[]⟩) 1 16 Try.underlying38 HI.out.1 HI.out.2.1 HI.out.2.2.1 HI.out.2.2.2 rfl (by decide) _ la.length _ (by rfl) ho1 bo lb.length cb (lb.map encStr) (by rfl) (HC.out.2.1.below hb4) k4 k5 hb4.size hb4 ?_; intro vo2 vc2 w5 ho2 hb5; have sA5 := (hb5.cell (p := ⟨w.heap.size, 13, none⟩) m0c).trans a13; have sB5 := (hb5.cell (p := ⟨w.heap.size + 1, 13, none⟩) m1c).trans b13)
                | (go_at_call 54; refine (rising_two vo2 vc2 la lb rl HRL w5 k6 ho2).mono ?_; rintro e w6 ⟨o, cap, rfl, hn6, hb6⟩; have hbc6 := below_two hb5 hb6; have sA6 := (hbc6.cell (p := ⟨w.heap.size, 13, none⟩) m0c).trans a13; have sB6 := (hbc6.cell (p := ⟨w.heap.size + 1, 13, none⟩) m1c).trans b13; have c6 := (hbc6.cell (p := ⟨w.heap.size + 1 + 1 + 1, 13, none⟩) m3c).trans c13; have f6 := (hbc6.frozen (p := ⟨w.heap.size + 1 + 1 + 1, 13, none⟩) m3c).trans f13; have u0 := fun u => (set_cell_far (w := w6) (o := 13) (o' := 13) d0 u).trans sA6; have u1 := fun u => (set_cell_far (w := w6) (o := 13) (o' := 13) d1 u).trans sB6))
            obtain ⟨K0, K1, K2, K3⟩ := HKK.out
            obtain ⟨V, hV⟩ : ∃ V, V = w6.setCell ⟨w.heap.size + 1 + 1 + 1, 13, none⟩ (.slice o rl.length cap) := ⟨_, rfl⟩
            rw [← hV]
            have L3 : V.heap[w.heap.size + 1 + 1 + 1]? = some (.cells #[.int .i64 (r 0).how, .int .i64 (r 0).lo, .int .i64 (r 0).hi, .int .i64 (r 1).how, .int .i64 (r 1).lo, .int .i64 (r 1).hi, .int .i64 (r 2).how, .int .i64 (r 2).lo, .int .i64 (r 2).hi, .int .i64 (r 3).how, .int .i64 (r 3).lo, .int .i64 (r 3).hi, .string tg, .slice o rl.length cap] 40 (0, 0)) := by rw [hV]; exact set_block ((hbc6.block _ m3c).trans K3) _
            have L2 : V.heap[w.heap.size + 1 + 1]? = some (.cells #[.int .i64 0, .int .i64 0, .int .i64 0, .int .i64 0, .int .i64 0, .int .i64 0, .int .i64 0, .int .i64 0, .int .i64 0, .int .i64 0, .int .i64 0, .int .i64 0, .string ⟨#[]⟩, .slice none 0 0] 40 (0, 0)) := by rw [hV, set_far (by omega)]; exact (hbc6.block _ (by omega)).trans K2
            have hbV : Below w.heap.size w V := by rw [hV]; exact ((HBW.out.trans (hbc6.mono HBW.out.size)).setCell (by simp <;> omega) _)
            have ntV : Nt w.heap.size V o cap rl := by
              have h1 := hn6.mono (B' := w.heap.size) (Nat.le_trans HBW.out.size hb5.size)
              refine h1.keep (fun b c _ hc => ?_)
              rw [hV]
              refine set_far (fun e => ?_) _
              rw [← e, (hbc6.block _ m3c).trans K3] at hc
              simp at hc
            have sV : w6.heap.size = V.heap.size := by rw [hV]; simp [World.setCell]
            have m3V : w.heap.size + 1 + 1 + 1 < V.heap.size := by have := hbc6.size; omega
            have hrlb : rl.length ≤ 5000 := by rw [HRL.out]; exact Nat.le_trans (Ev.length_rise _) k6
            clear u0 u1 d0 d1 hV sV K0 K1 K2 K3 HKK hn6 hb5 hb6 hbc6 ho1 ho2 hb4 sA4 sB4 sA5 sB5 sA6 sB6 c6 f6 a13 b13 c13 f13 HC HI HBW m0c m1c m3c k1 k2 k4 k5 k6 lla llb
            have hKA := HK.out.2.2
            have HKA : Hid (ka = Ev.anyOf tg rl) := hKA
            clear hKA HK HRL
            go_wp2_with fail
            go_loopg [11] rl.length (fun g i wx => ∃ j : Nat, j ≤ rl.length ∧ g = rl.length - j ∧ i = .int .i64 j ∧ Hid (NoneOf tg rl j) ∧ Below V.heap.size V wx)
            case atStart => exact ⟨0, by omega, rfl, rfl, fun j hj h => absurd h (Nat.not_lt_zero _), Below.refl _ _⟩
            case round =>
              obtain ⟨j, hj, hgk, rfl, HN, hbj⟩ := hrel
              have HGK : Hid (gk = rl.length - j) := hgk
              have M3 := (hbj.block _ m3V).trans L3
              have M2 := (hbj.block _ (by omega)).trans L2
              have ntj := ntV.below hbj
              have hbwj : Hid (Below w.heap.size w wr ∧ Below V.heap.size V wr) := ⟨hbV.trans (hbj.mono hbV.size), hbj⟩
              have hszj := hbj.size
              clear hgk hbj
              by_cases hjt : j < rl.length
              · obtain ⟨tb', rfl, _, tt⟩ := ntj.row (by omega)
                have q := tt.cell j hjt
                have htl := tt.lt
                have hji : (j : Int) < (rl.length : Int) := by omega
                obtain ⟨C3, _⟩ := cells_of M3
                obtain ⟨C2, F2⟩ := cells_of M2
                have c12 : wr.cell? ⟨w.heap.size + 1 + 1 + 1, 12, none⟩ = some (.string tg) := (C3 12).trans rfl
                have c13 : wr.cell? ⟨w.heap.size + 1 + 1 + 1, 13, none⟩ = some (.slice (some ⟨tb', 0, none⟩) rl.length cap) := (C3 13).trans rfl
                have q' : wr.cell? ⟨tb', j, none⟩ = some (.string (Ev.bts rl[j])) := q
                have hsz : (Ev.bts rl[j]).size ≤ 1000 := by rw [bts_size]; exact HRS.out _ (List.getElem_mem hjt)
                obtain ⟨sx, hsx⟩ : ∃ sx, sx = Ev.bts rl[j] := ⟨_, rfl⟩
                rw [← hsx] at q' hsz
                have HSX : Hid (sx = Ev.bts rl[j]) := hsx
                have cb34 := fun w' => begins22 tg sx w' stg hsz
                clear hsx q tt C3 M3
                cases hbg : Ev.begins tg sx with
                | true =>
                  rw [hbg] at cb34
                  have HF : Hid (ka = true) := HKA.out.trans (someOf hjt (by rw [← HSX.out]; exact hbg))
                  clear HKA hbg
                  go_wp2_with fail
                  go_quiet (first | (go_at_call 27; refine Calls.quiet_of_same (cb34 _)))
                  obtain ⟨Y, hY⟩ : ∃ Y, Y = wr.drewN nq := ⟨_, rfl⟩
                  rw [← hY]
                  have C2Y : ∀ i, Y.cell? ⟨w.heap.size + 1 + 1, i, none⟩ = (#[.int .i64 0, .int .i64 0, .int .i64 0, .int .i64 0, .int .i64 0, .int .i64 0, .int .i64 0, .int .i64 0, .int .i64 0, .int .i64 0, .int .i64 0, .int .i64 0, .string ⟨#[]⟩, .slice none 0 0] : Array Value)[i]? := fun i => by rw [hY]; exact C2 i
                  have F2Y : ∀ i, Y.frozen? ⟨w.heap.size + 1 + 1, i, none⟩ = false := fun i => by rw [hY]; exact F2 i
                  have hbY : Below w.heap.size w Y := by rw [hY]; exact ⟨hbwj.out.1.os, hbwj.out.1.tape, hbwj.out.1.output, hbwj.out.1.size, hbwj.out.1.block⟩
                  clear hY C2 F2 c12 c13 q' cb34
                  go_wp2
                  refine bodyPost_ret (v := .tuple #[.agg #[.int .i64 0, .int .i64 0, .int .i64 0, .int .i64 0, .int .i64 0, .int .i64 0, .int .i64 0, .int .i64 0, .int .i64 0, .int .i64 0, .int .i64 0, .int .i64 0, .string ⟨#[]⟩, .slice none 0 0], .bool false]) (by simp [results, Try.results44, go_sem, C2Y]) rfl ⟨?_, .inl ⟨by rw [hgood.out, HF.out]; simp, rfl⟩⟩
                  repeat (refine Below.setCell ?_ (by simp <;> omega) _)
                  exact hbY
                | false =>
                  rw [hbg] at cb34
                  have HN' : Hid (NoneOf tg rl (j + 1)) := by
                    intro i hi hlt
                    by_cases e : i = j
                    · subst e; rw [← HSX.out]; exact hbg
                    · exact HN.out i hi (by omega)
                  clear HKA hbg C2 F2 M2
                  go_wp2_with fail
                  go_quiet (first | (go_at_call 27; refine Calls.quiet_of_same (cb34 _)))
                  go_wp2
                  go_roundg (rl.length - (j + 1))
                  case measure => have := HGK.out; omega
                  case rel => exact ⟨j + 1, by omega, rfl, by go_num, HN', ⟨hbwj.out.2.os, hbwj.out.2.tape, hbwj.out.2.output, hbwj.out.2.size, hbwj.out.2.block⟩⟩
              · obtain rfl : j = rl.length := by omega
                have HF : Hid (ka = false) := HKA.out.trans (noneOf_all HN.out)
                obtain ⟨C3, _⟩ := cells_of M3
                obtain ⟨C2, F2⟩ := cells_of M2
                have HH : Hid (_ ∧ _) := ⟨M2, M3⟩
                have HNT : Hid (Nt w.heap.size wr o cap rl) := ntj
                clear HKA HN M2 M3 ntj ntV
                go_wp2
                refine bodyPost_ret (v := .tuple #[.agg #[.int .i64 (r 0).how, .int .i64 (r 0).lo, .int .i64 (r 0).hi, .int .i64 (r 1).how, .int .i64 (r 1).lo, .int .i64 (r 1).hi, .int .i64 (r 2).how, .int .i64 (r 2).lo, .int .i64 (r 2).hi, .int .i64 (r 3).how, .int .i64 (r 3).lo, .int .i64 (r 3).hi, .string tg, .slice o rl.length cap], .bool true]) (by simp [results, Try.results44, go_sem, C2]) rfl ⟨?_, .inr ⟨by rw [hgood.out, HF.out]; rfl, o, cap, rfl, ?_⟩⟩
                · repeat (refine Below.setCell ?_ (by simp <;> omega) _)
                  exact hbwj.out.1
                · refine HNT.out.keep (fun b c _ hc => ?_)
                  have h2 : w.heap.size + 1 + 1 ≠ b := by intro e; rw [← e, HH.out.1] at hc; simp at hc
                  simp only [set_far h2]

end Go.Proofs.Ytflpdekifkcfkab
