/- seen.May of any row of heads; view.May of any view. -/
import Derived.Test.YtdeojcodbojmoaaGreatDoorHds
import Derived.Test.YtdeojcodbojmoaaGreatDoorPrp
namespace Go.Proofs.YtdeojcodbojmoaaGreatDoor
open Go.RowKit
set_option maxRecDepth 100000
set_option linter.unusedVariables false

/-- What check tells of a row. -/
def RkV (ok : Bool) (ev : Value) : Prop := (ok = true ∧ ev = .nilIface) ∨ (ok = false ∧ ∃ (k : Int) (p : ByteArray), ev = .iface 112 (.agg #[.int .i64 k, .iface 148 (.agg #[.string p])]))

set_option maxHeartbeats 4000000 in
/-- seen.check. -/
theorem chk41 (a : Addr) (P : Nat → Prop) (ao : Option Addr) (cap : Nat) (l : List Hd) (w : World) (hg : w.cell? ⟨2, 0, none⟩ = some (.iface 185 (.pointer (some a)))) (hr : Rdz P w 4 ao l.length (hcells l)) :
    Calls Tryz.prog 41 #[.slice ao l.length cap] w fun r w' => (∃ ev, r = .returned ev ∧ RkV (hsOk l 0) ev) ∧ Below w.heap.size w w' := by
  have hlt : 2 < w.heap.size := World.block_lt_of_cell? w ⟨2, 0, none⟩ hg
  obtain ⟨_, hle, hrd⟩ := hr
  generalize hL : l.length = len at *
  generalize hB : hsOk l 0 = B at *
  go_enter Tryz.func41, Tryz.ntmps41
  go_wp2_with fail
  go_loopw [3, 9] (fun la i wr => ∃ (k : Nat) (last : Int), k ≤ len ∧ la = .int .i64 last ∧ i = .int .i64 k ∧ hsOk (l.drop k) last = B ∧ Below w.heap.size w wr) (fun _ i _ => len - (intOf i).toNat)
  case atStart => exact ⟨0, 0, Nat.zero_le _, rfl, rfl, by simpa using hB, Below.refl _ _⟩
  case round =>
    obtain ⟨k, last, hk, rfl, rfl, hS, hbel⟩ := hrel
    by_cases hkl : k < len
    · obtain ⟨b, off, rfl, _, hbw, hc⟩ := hrd (by omega)
      have hkl' : k < l.length := by omega
      obtain ⟨u0, u1, u2, u3⟩ := head_at hc k hkl'
      have v0 := (hbel.cell (p := ⟨b, off + k * 4, none⟩) hbw).trans u0
      have v1 := (hbel.cell (p := ⟨b, off + k * 4 + 1, none⟩) hbw).trans u1
      have v2 := (hbel.cell (p := ⟨b, off + k * 4 + 2, none⟩) hbw).trans u2
      have v3 := (hbel.cell (p := ⟨b, off + k * 4 + 3, none⟩) hbw).trans u3
      rw [List.drop_eq_getElem_cons hkl'] at hS
      have hS' : (hOk l[k] last && hsOk (l.drop (k + 1)) (l[k]).it) = B := hS
      have c := head61 a l[k] last (wr.alloc (.cells #[.int .i64 (l[k]).it, .int .i64 (l[k]).L, .int .i64 (l[k]).R, .int .i64 (l[k]).N] 45)) (by rw [World.cell?_alloc_past _ _ _ (hn := by have := hbel.size; omega)]; exact (hbel.cell (p := ⟨2, 0, none⟩) hlt).trans hg)
      have HB : Hid (Below w.heap.size w wr) := hbel
      have HS : Hid ((hOk l[k] last && hsOk (l.drop (k + 1)) (l[k]).it) = B) := hS'
      clear hbel u0 u1 u2 u3 hc hS hS' hrd
      generalize l[k] = hd at *
      go_wp2_with fail
      refine c.mono ?_
      rintro r w1 ⟨⟨ev, rfl, hz⟩, hb1⟩
      have z0 : w1.cell? ⟨wr.heap.size, 0, none⟩ = some (.int .i64 hd.it) := by rw [hb1.cell (p := ⟨wr.heap.size, 0, none⟩) (by simp)]; simp
      have HB1 : Hid (Below w.heap.size w w1) := (HB.out.alloc HB.out.size _).trans (hb1.mono (by have := HB.out.size; simp; omega))
      clear c v0 v1 v2 v3 hb1 HB
      rcases hz with ⟨ho, rfl⟩ | ⟨ho, p, rfl⟩
      · have hs2 : hsOk (l.drop (k + 1)) hd.it = B := by have := HS.out; rw [ho] at this; simpa using this
        have HS2 : Hid (hsOk (l.drop (k + 1)) hd.it = B) := hs2
        clear hs2
        clear HS ho
        go_wp2
        go_roundw
        case rel => exact ⟨k + 1, hd.it, by omega, rfl, by go_num, HS2.out, HB1.out⟩
        case measure => simp [intOf]; omega
      · have hs2 : B = false := by have := HS.out; rw [ho] at this; simpa using this.symm
        have HS2 : Hid (B = false) := hs2
        clear hs2
        clear HS ho
        go_wp2
        go_ret
        exact ⟨⟨_, rfl, .inr ⟨HS2.out, _, _, rfl⟩⟩, HB1.out⟩
    · have hS' : hsOk (l.drop k) last = B := hS
      rw [List.drop_of_length_le (by omega)] at hS'
      have HS : Hid (B = true) := hS'.symm
      clear hS hS' hrd
      go_wp2
      go_ret
      exact ⟨⟨_, rfl, .inl ⟨HS.out, rfl⟩⟩, hbel⟩

theorem is_rkv (a : Addr) (ok : Bool) (ev : Value) (w : World) (hz : RkV ok ev) (hg : w.cell? ⟨0, 0, none⟩ = some (.iface 185 (.pointer (some a)))) :
    Calls Tryz.prog 40 #[ev, .iface 185 (.pointer (some a))] w fun r w' => r = .returned (.bool (!ok)) ∧ Below w.heap.size w w' := by
  rcases hz with ⟨rfl, rfl⟩ | ⟨rfl, k, p, rfl⟩
  · refine (is40 a w).mono ?_
    rintro r w' ⟨rfl, rfl⟩
    exact ⟨rfl, Below.refl _ _⟩
  · exact is_seen a k p w hg

set_option maxHeartbeats 4000000 in
/-- seen.May. -/
theorem senMay27 (a b : Addr) (P : Nat → Prop) (ao : Option Addr) (cap : Nat) (l : List Hd) (w : World) (hg : w.cell? ⟨0, 0, none⟩ = some (.iface 185 (.pointer (some a)))) (hg2 : w.cell? ⟨2, 0, none⟩ = some (.iface 185 (.pointer (some b)))) (hr : Rdz P w 4 ao l.length (hcells l)) :
    Calls Tryz.prog 27 #[.slice ao l.length cap] w fun r w' => r = .returned (.bool (hsOk l 0)) ∧ Below w.heap.size w w' := by
  have hlt : 0 < w.heap.size := World.block_lt_of_cell? w ⟨0, 0, none⟩ hg
  have c1 := chk41 b P ao cap l w.drew hg2 (hr.kept ((Kept.refl _ w).drew))
  generalize hsOk l 0 = B at *
  generalize l.length = len at *
  clear hr hg2
  go_enter Tryz.func27, Tryz.ntmps27
  go_wp2_with fail
  go_region_held3 (fun w' => w'.cell? ⟨0, 0, none⟩ = some (.iface 185 (.pointer (some a))))
    (go_keep)
    (first
      | (go_at_call 41; refine c1.mono ?_; rintro r w5 ⟨⟨ev, rfl, hz⟩, hb5⟩; obtain ⟨hcl, hfl, z1⟩ := callee_old hb5)
      | (go_at_call 40; refine (is_rkv a _ _ _ hz (by simp [*])).mono ?_; rintro r w6 ⟨rfl, hb6⟩; have hc6 : ∀ b o, b < w5.heap.size → w6.cell? ⟨b, o, none⟩ = w5.cell? ⟨b, o, none⟩ := fun b o h => hb6.cell (p := ⟨b, o, none⟩) h; have zz1 : 0 < w5.heap.size := Nat.lt_of_lt_of_le hlt z1))
  have HB : Hid (Below w.heap.size w w6) := Below.trans (b := w.drew) (Below.refl _ w).drew (hb5.trans (hb6.mono hb5.size))
  go_wp2
  go_ret
  exact ⟨by simp, HB.out⟩

/-- How often something may happen. -/
def tms (n : Int) : Bool := decide (0 ≤ n) && decide (n ≤ 1000000)
set_option maxHeartbeats 1000000 in
theorem tms26 (n : Int) (w : World) : Calls Tryz.prog 26 #[.int .i64 n] w fun r w' => r = .returned (.bool (tms n)) ∧ w' = w := by
  unfold tms
  by_cases h1 : 0 ≤ n
  · have d1 : decide (0 ≤ n) = true := decide_eq_true h1
    rw [d1]
    go_enter Tryz.func26, Tryz.ntmps26
    go_wp2
    go_ret
    exact ⟨rfl, rfl⟩
  · have d1 : decide (0 ≤ n) = false := decide_eq_false h1
    rw [d1]
    go_enter Tryz.func26, Tryz.ntmps26
    go_wp2
    go_ret
    exact ⟨rfl, rfl⟩

set_option maxHeartbeats 2000000 in
theorem allT28 (P : Nat → Prop) (ao : Option Addr) (cap : Nat) (l : List Int) (w : World) (hr : Rdz P w 1 ao l.length (icells l)) : Calls Tryz.prog 28 #[.slice ao l.length cap] w fun r w' => r = .returned (.bool (l.all tms)) ∧ w' = w := by
  obtain ⟨_, hle, hrd⟩ := hr
  generalize hL : l.length = len at *
  generalize hB : l.all tms = B at *
  go_enter Tryz.func28, Tryz.ntmps28
  go_wp2_with fail
  go_loopw [7] (fun i wr => ∃ k : Nat, k ≤ len ∧ i = .int .i64 k ∧ (l.drop k).all tms = B ∧ wr = w) (fun i _ => len - (intOf i).toNat)
  case atStart => exact ⟨0, Nat.zero_le _, rfl, by simpa using hB, rfl⟩
  case round =>
    obtain ⟨k, hk, rfl, hS, rfl⟩ := hrel
    by_cases hkl : k < len
    · obtain ⟨b, off, rfl, _, hbw, hc⟩ := hrd (by omega)
      have hkl' : k < l.length := by omega
      have u0 := int_at hc k hkl'
      rw [List.drop_eq_getElem_cons hkl', List.all_cons] at hS
      have c := tms26 l[k] wr
      have HS : Hid ((tms l[k] && (l.drop (k + 1)).all tms) = B) := hS
      clear hc hS hrd
      generalize l[k] = n at *
      cases et : tms n with
      | true =>
        have hs2 : (l.drop (k + 1)).all tms = B := by have := HS.out; rw [et] at this; simpa using this
        have HS2 : Hid ((l.drop (k + 1)).all tms = B) := hs2
        rw [et] at c
        clear hs2 HS
        go_wp2_with fail
        refine c.mono ?_
        rintro r w1 ⟨rfl, rfl⟩
        go_wp2
        go_roundw
        case rel => exact ⟨k + 1, by omega, by go_num, HS2.out, by trivial⟩
        case measure => simp [intOf]; omega
      | false =>
        have hs2 : B = false := by have := HS.out; rw [et] at this; simpa using this.symm
        have HS2 : Hid (B = false) := hs2
        rw [et] at c
        clear hs2 HS
        go_wp2_with fail
        refine c.mono ?_
        rintro r w1 ⟨rfl, rfl⟩
        go_wp2
        go_ret
        exact ⟨by rw [HS2.out]; rfl, rfl⟩
    · rw [List.drop_of_length_le (by omega)] at hS
      have HS : Hid (B = true) := hS.symm
      clear hS hrd
      go_wp2
      go_ret
      exact ⟨by rw [HS.out]; rfl, rfl⟩

/-- Which views may be. -/
def mayV (v : Vw) (n : Int) : Bool := decide (1 ≤ v.R) && (decide (v.R ≤ n) && (if v.Rev = 0 then sv v ⟨v.R, 0, ⟨#[]⟩, [], []⟩ else Ps.okP v.f.data.toList && (tms v.Rev && (hsOk v.sn 0 && (decide ((v.ep.length : Int) = n) && v.ep.all tms)))))

/-- What the package's variables hold. -/
structure Vars (w : World) : Prop where
  seen : ∃ a, w.cell? ⟨0, 0, none⟩ = some (.iface 185 (.pointer (some a)))
  err : ErrT w
  stamp : ∃ a, w.cell? ⟨2, 0, none⟩ = some (.iface 185 (.pointer (some a)))

theorem Vars.lt {w : World} (h : Vars w) : 2 < w.heap.size := by obtain ⟨a, h⟩ := h.stamp; exact World.block_lt_of_cell? w ⟨2, 0, none⟩ h
theorem Vars.below {w w' : World} {B : Nat} (h : Vars w) (hb : Below B w w') (hB : 2 < B) : Vars w' := by
  obtain ⟨⟨a, ha⟩, he, ⟨b, hb'⟩⟩ := h
  exact ⟨⟨a, (hb.cell (p := ⟨0, 0, none⟩) (by show 0 < B; omega)).trans ha⟩, he.below hb (by omega), ⟨b, (hb.cell (p := ⟨2, 0, none⟩) hB).trans hb'⟩⟩

end Go.Proofs.YtdeojcodbojmoaaGreatDoor
