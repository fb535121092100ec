/- cardamomref4.LetsBox: what the document's box lets through. -/
import Derived.Test.YtflpdekifkcfkabMeetd
import Derived.BigQuiet
import Derived.Deep.QuietTactic
import Derived.Deep.LoopGhost
namespace Go.Proofs.Ytflpdekifkcfkab
open Go.RowKit
set_option linter.unusedVariables false

/-- What the document asks of a key. -/
theorem side_lets {al : List (Int × Int)} (hs : Ev.Small al) (key : Int) (p : Ev.Sd) (hp : p.ok) :
    p.lets al key = (!((decide (p.how = 1) && ((!(Ev.attr al key).isSome || decide ((Ev.attr al key).getD 0 < p.lo)) || decide (p.hi < (Ev.attr al key).getD 0))) || (decide (p.how = 2) && (Ev.attr al key).isSome))) := by
  obtain ⟨ph, pl, pu⟩ := p
  have hw := Ev.between_wide hs key
  rcases hp with ⟨h1, h2, h3⟩ | ⟨h1, h2, h3⟩ | ⟨h1, h2, h3, h4⟩ <;> simp only at h1 <;> subst h1
  · simp [Ev.Sd.lets]
  · simp [Ev.Sd.lets, hw]
  · simp only [Ev.Sd.lets, Ev.between]
    cases Ev.attr al key with
    | none => simp
    | some n => rw [Bool.eq_iff_iff]; simp

theorem kk_step {kk : Nat → Bool} {k : Nat} (h : ∀ j, j < k → kk j = true) (e : kk k = true) : ∀ j, j < k + 1 → kk j = true := by
  intro j hj
  by_cases ej : j = k
  · rw [ej]; exact e
  · exact h j (by omega)

theorem kk_none {kk : Nat → Bool} {k : Nat} (h : k < 4) (e : kk k = false) : (kk 0 && (kk 1 && (kk 2 && kk 3))) = false := by
  have hc : k = 0 ∨ k = 1 ∨ k = 2 ∨ k = 3 := by omega
  rcases hc with rfl | rfl | rfl | rfl <;> rw [e] <;> simp

set_option maxRecDepth 100000 in
set_option maxHeartbeats 16000000 in
theorem lbox_any (p : Nat → Ev.Sd) (tag : ByteArray) (ao : Option Addr) (cap : Nat) (nots : List (List UInt8)) (v : Vs) (al : List (Int × Int)) (kk : Nat → Bool) (rt rn r : Bool) (w : World)
    (HR : Hid (r = ((kk 0 && (kk 1 && (kk 2 && kk 3))) && (rt && !rn)))) (HK : Hid (∀ k : Nat, k < 4 → (p k).ok ∧ kk k = (p k).lets al (k : Int))) (HS : Hid (Ev.Small al)) (HN : Hid (rn = Ev.anyOf v.tag nots ∧ rt = Ev.begins v.tag tag))
    (hl : nots.length ≤ 1000) (hls : Hid (∀ a ∈ nots, a.length ≤ 1000)) (ht : tag.size ≤ 1000) (hx : Txts Any w ao nots) (hv : Has Any w v al) :
    Calls Try.prog 20 #[.agg #[.int .i64 (p 0).how, .int .i64 (p 0).lo, .int .i64 (p 0).hi, .int .i64 (p 1).how, .int .i64 (p 1).lo, .int .i64 (p 1).hi, .int .i64 (p 2).how, .int .i64 (p 2).lo, .int .i64 (p 2).hi, .int .i64 (p 3).how, .int .i64 (p 3).lo, .int .i64 (p 3).hi, .string tag, .slice ao nots.length cap], .agg #[.int .i64 v.it, .int .i64 v.L, .int .i64 v.R, .int .i64 v.N, .bool v.dead, .slice v.ao v.len v.cap, .string v.tag, .string v.body]] w fun e w' => e = .returned (.bool r) ∧ Below w.heap.size w w' := by
  have htv := hv.2.2.1
  have HX : Hid (Txts Any w ao nots ∧ Has Any w v al) := ⟨hx, hv⟩
  clear hx hv
  go_enter Try.func20, Try.ntmps20
  go_wp2_with fail
  obtain ⟨W, hW⟩ : ∃ W, W = (w.alloc (.cells #[.int .i64 (p 0).how, .int .i64 (p 0).lo, .int .i64 (p 0).hi, .int .i64 (p 1).how, .int .i64 (p 1).lo, .int .i64 (p 1).hi, .int .i64 (p 2).how, .int .i64 (p 2).lo, .int .i64 (p 2).hi, .int .i64 (p 3).how, .int .i64 (p 3).lo, .int .i64 (p 3).hi, .string tag, .slice ao nots.length cap] 40)).alloc (.cells #[.int .i64 v.it, .int .i64 v.L, .int .i64 v.R, .int .i64 v.N, .bool v.dead, .slice v.ao v.len v.cap, .string v.tag, .string v.body] 48) := ⟨_, rfl⟩
  rw [← hW]
  have e1 : W.heap[w.heap.size + 1]? = some (.cells #[.int .i64 v.it, .int .i64 v.L, .int .i64 v.R, .int .i64 v.N, .bool v.dead, .slice v.ao v.len v.cap, .string v.tag, .string v.body] 48 (0, 0)) := by rw [hW]; exact heap_at _ _ (by simp)
  have e0 : W.heap[w.heap.size]? = some (.cells #[.int .i64 (p 0).how, .int .i64 (p 0).lo, .int .i64 (p 0).hi, .int .i64 (p 1).how, .int .i64 (p 1).lo, .int .i64 (p 1).hi, .int .i64 (p 2).how, .int .i64 (p 2).lo, .int .i64 (p 2).hi, .int .i64 (p 3).how, .int .i64 (p 3).lo, .int .i64 (p 3).hi, .string tag, .slice ao nots.length cap] 40 (0, 0)) := by rw [hW, heap_old _ _ (by simp)]; exact heap_at _ _ (by simp)
  have hs : w.heap.size + 1 < W.heap.size := by rw [hW]; simp
  have hbW : Below w.heap.size w W := by rw [hW]; exact ((Below.refl _ _).alloc (Nat.le_refl _) _).alloc (by simp) _
  have HB : Hid (Below w.heap.size w W) := hbW
  clear hW hbW
  go_loopg [5] 4 (fun g i wr => ∃ k : Nat, k ≤ 4 ∧ g = 4 - k ∧ i = .int .i64 k ∧ Hid (∀ j, j < k → kk j = true) ∧ Hid (Below W.heap.size W wr))
  case atStart => exact ⟨0, by omega, rfl, rfl, fun j h => by omega, Below.refl _ _⟩
  case round =>
    obtain ⟨k, hk, hgk, rfl, H, hbel⟩ := hrel
    have HGK : Hid (gk = 4 - k) := hgk
    clear hgk
    have hsr := hbel.out.size
    have m0 : w.heap.size < wr.heap.size := by omega
    have m1 : w.heap.size + 1 < wr.heap.size := by omega
    have E0 := (hbel.out.block (w.heap.size) (by omega)).trans e0
    have E1 := (hbel.out.block (w.heap.size + 1) (by omega)).trans e1
    clear e0 e1
    by_cases hk4 : k < 4
    · have hki : (k : Int) < 4 := by omega
      obtain ⟨C1, _⟩ := cells_of E1
      have ca := attr21 v al (k : Int) wr ((HX.out.2.below (HB.out)).below (hbel.out.mono (Nat.le_refl _)))
      unfold attrV Vs.val at ca
      obtain ⟨okp, hkk⟩ := HK.out k hk4
      rw [side_lets HS.out _ _ okp] at hkk
      obtain ⟨ph, pl, pu, hp⟩ : ∃ ph pl pu, p k = ⟨ph, pl, pu⟩ := ⟨_, _, _, rfl⟩
      rw [hp] at hkk
      simp only at hkk
      obtain ⟨oa, hoa⟩ : ∃ oa, oa = Ev.attr al (k : Int) := ⟨_, rfl⟩
      rw [← hoa] at ca hkk
      have HKK : Hid (kk k = _) := hkk
      clear hkk hoa
      rw [hp] at okp
      have OKP : Hid (Ev.Sd.ok ⟨ph, pl, pu⟩) := okp
      clear okp
      go_wp2_with fail
      refine ca.mono ?_
      rintro e w1 ⟨rfl, hb1⟩
      have hs1 := hb1.size
      have E0' := (hb1.block _ m0).trans E0
      obtain ⟨C0, _⟩ := cells_of E0'
      obtain ⟨a0, a1, a2⟩ := side_at p (.string tag) (.slice ao nots.length cap) k hk4
      have A0 := (C0 _).trans a0
      have A1 := (C0 _).trans a1
      have A2 := (C0 _).trans a2
      rw [hp] at A0 A1 A2
      simp only at A0 A1 A2
      have m0' : w.heap.size < w1.heap.size := by omega
      have Hb1 : Hid (Below W.heap.size W w1) := hbel.out.trans (hb1.mono hsr)
      clear a0 a1 a2 C0 C1 E0 E1 E0' ca hp hb1
      have hsz1 : W.heap.size ≤ w1.heap.size := Hb1.out.size
      have fin : ∀ (o : Obj), Below w.heap.size w (w1.alloc o) := fun o => (HB.out.trans (Hb1.out.mono HB.out.size)).alloc (by omega) _
      have FIN : Hid (∀ (o : Obj), Below w.heap.size w (w1.alloc o)) := fin
      have nxt : Hid (∀ (o : Obj), Below W.heap.size W (w1.alloc o)) := fun o => Hb1.out.alloc hsz1 _
      clear fin
      rcases OKP.out with ⟨h1, h2, h3⟩ | ⟨h1, h2, h3⟩ | ⟨h1, h2, h3, h4⟩ <;> simp only at h1 <;> subst h1
      · have KT : Hid (kk k = true) := (show kk k = true from by rw [HKK.out]; simp)
        clear HKK h2 h3 OKP
        go_wp2
        go_roundg (4 - (k + 1))
        case measure => have := HGK.out; omega
        case rel => exact ⟨k + 1, by omega, rfl, by go_num, kk_step H.out KT.out, nxt.out _⟩
      · clear h2 h3 OKP
        cases oa with
        | none =>
          simp only [Option.isSome_none]
          have KT : Hid (kk k = true) := (show kk k = true from by rw [HKK.out]; simp)
          clear HKK
          go_wp2
          go_roundg (4 - (k + 1))
          case measure => have := HGK.out; omega
          case rel => exact ⟨k + 1, by omega, rfl, by go_num, kk_step H.out KT.out, nxt.out _⟩
        | some n =>
          simp only [Option.isSome_some, Option.getD_some]
          have KF : Hid (kk k = false) := (show kk k = false from by rw [HKK.out]; simp)
          clear HKK
          go_wp2
          go_ret
          exact ⟨by rw [HR.out, kk_none hk4 KF.out]; rfl, FIN.out _⟩
      · clear h2 h3 h4 OKP
        cases oa with
        | none =>
          simp only [Option.isSome_none, Option.getD_none]
          have KF : Hid (kk k = false) := (show kk k = false from by rw [HKK.out]; simp)
          clear HKK
          go_wp2
          go_ret
          exact ⟨by rw [HR.out, kk_none hk4 KF.out]; rfl, FIN.out _⟩
        | some n =>
          simp only [Option.isSome_some, Option.getD_some]
          by_cases g1 : n < pl
          · have KF : Hid (kk k = false) := (show kk k = false from by rw [HKK.out]; simp [g1])
            clear HKK
            go_wp2
            go_ret
            exact ⟨by rw [HR.out, kk_none hk4 KF.out]; rfl, FIN.out _⟩
          · by_cases g2 : pu < n
            · have KF : Hid (kk k = false) := (show kk k = false from by rw [HKK.out]; simp [g2])
              clear HKK
              go_wp2
              go_ret
              exact ⟨by rw [HR.out, kk_none hk4 KF.out]; rfl, FIN.out _⟩
            · have KT : Hid (kk k = true) := (show kk k = true from by rw [HKK.out]; simp; omega)
              clear HKK
              go_wp2
              go_roundg (4 - (k + 1))
              case measure => have := HGK.out; omega
              case rel => exact ⟨k + 1, by omega, rfl, by go_num, kk_step H.out KT.out, nxt.out _⟩
    · obtain rfl : k = 4 := by omega
      clear hk hk4
      have hr : r = (rt && !rn) := by rw [HR.out, H.out 0 (by omega), H.out 1 (by omega), H.out 2 (by omega), H.out 3 (by omega)]; rfl
      have HR' : Hid (r = (rt && !rn)) := hr
      have HT2 : Hid (Txts Any wr ao nots) := (HX.out.1.below HB.out).below hbel.out
      clear hr H HGK
      have hlw : w.heap.size + 1 < wr.heap.size := m1
      obtain ⟨V, hV⟩ : ∃ V, V = wr := ⟨_, rfl⟩
      subst hV
      go_wp2_with fail
      go_loopg [9] nots.length (fun g i wq => ∃ j : Nat, j ≤ nots.length ∧ g = nots.length - j ∧ i = .int .i64 j ∧ Hid (NoneOf v.tag nots j) ∧ Hid (Below V.heap.size V wq))
      case atStart => exact ⟨0, by omega, rfl, rfl, fun j hj h => by omega, Below.refl _ _⟩
      case round =>
        obtain ⟨j, hj, hgj, rfl, HNn, hbq⟩ := hrel
        have HGJ : Hid (gk = nots.length - j) := hgj
        clear hgj
        have hsq := hbq.out.size
        have F0 := (hbq.out.block (w.heap.size) (by omega)).trans E0
        have F1 := (hbq.out.block (w.heap.size + 1) (by omega)).trans E1
        obtain ⟨C0, _⟩ := cells_of F0
        obtain ⟨C1, _⟩ := cells_of F1
        have n0 : w.heap.size < wr.heap.size := by omega
        have n1 : w.heap.size + 1 < wr.heap.size := by omega
        have b12 : wr.cell? ⟨w.heap.size, 12, none⟩ = some (.string tag) := (C0 12).trans rfl
        have b13 : wr.cell? ⟨w.heap.size, 13, none⟩ = some (.slice ao nots.length cap) := (C0 13).trans rfl
        have v6 : wr.cell? ⟨w.heap.size + 1, 6, none⟩ = some (.string v.tag) := (C1 6).trans rfl
        have HBQ : Hid (Below w.heap.size w wr ∧ Below V.heap.size V wr) := ⟨(HB.out.trans (hbel.out.mono (by omega))).trans (hbq.out.mono (by omega)), hbq.out⟩
        have HTq : Hid (Txts Any wr ao nots) := HT2.out.below hbq.out
        clear F0 F1 C0 C1 E0 E1 hbq HT2
        by_cases hjt : j < nots.length
        · have hji : (j : Int) < (nots.length : Int) := by omega
          obtain ⟨b, rfl, _, hb, hc⟩ := HTq.out (by omega)
          have q := hc j hjt
          have hsz : (Ev.bts nots[j]).size ≤ 1000 := by rw [bts_size]; exact hls.out _ (List.getElem_mem hjt)
          obtain ⟨sx, hsx⟩ : ∃ sx, sx = Ev.bts nots[j] := ⟨_, rfl⟩
          rw [← hsx] at q hsz
          have HSX : Hid (sx = Ev.bts nots[j]) := hsx
          have cb := fun w' => begins22 v.tag sx w' htv hsz
          clear hsx hc
          cases hbg : Ev.begins v.tag sx with
          | true =>
            rw [hbg] at cb
            have HF : Hid (rn = true) := HN.out.1.trans (someOf hjt (by rw [← HSX.out]; exact hbg))
            clear hbg
            go_wp2_with fail
            go_quiet (first | (go_at_call 27; refine Calls.quiet_of_same (cb _)))
            go_wp2
            go_ret
            exact ⟨by rw [HR'.out, HF.out]; simp, ⟨HBQ.out.1.os, HBQ.out.1.tape, HBQ.out.1.output, HBQ.out.1.size, HBQ.out.1.block⟩⟩
          | false =>
            rw [hbg] at cb
            have HN' : Hid (NoneOf v.tag nots (j + 1)) := by
              intro i hi hlt
              by_cases e : i = j
              · subst e; rw [← HSX.out]; exact hbg
              · exact HNn.out i hi (by omega)
            clear hbg
            go_wp2_with fail
            go_quiet (first | (go_at_call 27; refine Calls.quiet_of_same (cb _)))
            go_wp2
            go_roundg (nots.length - (j + 1))
            case measure => have := HGJ.out; omega
            case rel => exact ⟨j + 1, by omega, rfl, by go_num, HN', ⟨HBQ.out.2.os, HBQ.out.2.tape, HBQ.out.2.output, HBQ.out.2.size, HBQ.out.2.block⟩⟩
        · obtain rfl : j = nots.length := by omega
          have HF : Hid (rn = false) := HN.out.1.trans (noneOf_all HNn.out)
          have cb := fun w' => begins22 v.tag tag w' htv ht
          rw [← HN.out.2] at cb
          clear hj hjt
          go_wp2_with fail
          refine (cb _).mono ?_
          rintro e w' ⟨rfl, rfl⟩
          go_wp2
          go_ret
          exact ⟨by rw [HR'.out, HF.out]; simp, HBQ.out.1⟩

/-- cardamomref4.LetsBox. -/
theorem lbox18 (x : Ev.Bx) (ao : Option Addr) (cap m : Nat) (v : Vs) (al : List (Int × Int)) (w : World) (hs : Ev.Small al) (hx : x.ok m) (hm : m ≤ 1000) (ht : Txts Any w ao x.nots) (hv : Has Any w v al) :
    Calls Try.prog 20 #[Bval x ao cap, v.val] w fun e w' => e = .returned (.bool (x.lets al v.tag)) ∧ Below w.heap.size w w' := by
  have e4 : ∀ k : Nat, k < 4 → (x.s k).ok ∧ (fun k : Nat => (x.s k).lets al (k : Int)) k = (x.s k).lets al (k : Int) := fun k hk => ⟨hx.1 k hk, rfl⟩
  exact lbox_any x.s x.tag ao cap x.nots v al (fun k : Nat => (x.s k).lets al (k : Int)) (Ev.begins v.tag x.tag) (Ev.anyOf v.tag x.nots) (x.lets al v.tag) w (show Hid (x.lets al v.tag = _) from rfl) e4 hs ⟨rfl, rfl⟩ (Nat.le_trans hx.2.2.1 hm) hx.2.2.2 hx.2.1 ht hv

end Go.Proofs.Ytflpdekifkcfkab
