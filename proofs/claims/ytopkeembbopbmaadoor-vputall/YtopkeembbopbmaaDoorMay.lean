/- vers.check, vers.May of any version. -/
import Derived.Test.YtopkeembbopbmaaDoorChk
import Derived.Test.YtopkeembbopbmaaDoorTkm
namespace Go.Proofs.YtopkeembbopbmaaDoor
open Go.RowKit
set_option maxRecDepth 100000
set_option linter.unusedVariables false

/-- The variables that the program's packages have. -/
structure Vars (w : World) (a b : Addr) : Prop where
  e : ErrT w
  n : Err w a
  s : w.cell? ⟨2, 0, none⟩ = some (.iface 135 (.pointer (some b)))

theorem Vars.lt {w : World} {a b : Addr} (h : Vars w a b) : 2 < w.heap.size := World.block_lt_of_cell? w ⟨2, 0, none⟩ h.s
theorem Vars.kept {P : Nat → Prop} {w w' : World} {a b : Addr} (h : Vars w a b) (hk : Kept P w w') (h0 : P 0) (h1 : P 1) (h2 : P 2) : Vars w' a b := by
  have hlt := h.lt
  exact ⟨(hk.cell (b := 0) (o := 0) (by omega) h0).trans h.e, (hk.cell (b := 1) (o := 0) (by omega) h1).trans h.n, (hk.cell (b := 2) (o := 0) (by omega) h2).trans h.s⟩
theorem Vars.below {w w' : World} {a b : Addr} (h : Vars w a b) (hb : Below w.heap.size w w') : Vars w' a b := h.kept (P := Any) (Kept.of_below hb) trivial trivial trivial

/-- A version's cells. -/
def vcells (v : Vn) : Array Value := #[.int .i64 v.it, .int .i64 v.L, .int .i64 v.R, .int .i64 v.N, .bool v.dead, .slice v.ao v.len v.cap, .string v.tag, .string v.body]

set_option maxHeartbeats 4000000 in
theorem check43 (a b : Addr) (v : Vn) (al : List (Int × Int)) (w : World) (hV : Vars w a b) (hH : Has w v al) (ht : v.tag.size ≤ maxLen) (hb : v.body.size ≤ maxLen) :
    Calls Tryd.prog 43 #[v.val] w fun r w' => (∃ ev, r = .returned ev ∧ VkV (mayI v al) ev) ∧ Below w.heap.size w w' := by
  obtain ⟨it, L, R, N, dead, ao, len, cap, tag, body⟩ := v
  unfold Vn.val
  simp only at ht hb ⊢
  have hH' : At w ao len al := hH
  have HM : Hid (mayI ⟨it, L, R, N, dead, ao, len, cap, tag, body⟩ al = ((decide (1 ≤ it) && decide (it ≤ 6)) && (stOk L R N && (atsOk al && (tagOk tag && bodyOk dead body))))) := by show _ = _; rfl
  have H1 : Hid (At w ao len al ∧ Vars w a b) := ⟨hH', hV⟩
  have q1 := num52 it 1 6
  have q4 := fun w => tag55 tag w ht
  have q5 := fun w => body56 body dead w hb
  have hlt := hV.lt
  clear hV hH hH' ht hb
  generalize mayI ⟨it, L, R, N, dead, ao, len, cap, tag, body⟩ al = M at *
  go_enter Tryd.func43, Tryd.ntmps43
  go_wp2_with fail
  refine (q1 _).mono ?_
  rintro r w1 ⟨⟨ev, rfl, hz⟩, rfl⟩
  clear q1
  obtain ⟨W, hW⟩ : ∃ W, W = w.alloc (.cells #[.int .i64 it, .int .i64 L, .int .i64 R, .int .i64 N, .bool dead, .slice ao len cap, .string tag, .string body] 26) := ⟨_, rfl⟩
  rw [← hW]
  have b0 : W.cell? ⟨w.heap.size, 0, none⟩ = some (.int .i64 it) := by rw [hW]; simp
  have b1 : W.cell? ⟨w.heap.size, 1, none⟩ = some (.int .i64 L) := by rw [hW]; simp
  have b2 : W.cell? ⟨w.heap.size, 2, none⟩ = some (.int .i64 R) := by rw [hW]; simp
  have b3 : W.cell? ⟨w.heap.size, 3, none⟩ = some (.int .i64 N) := by rw [hW]; simp
  have b4 : W.cell? ⟨w.heap.size, 4, none⟩ = some (.bool dead) := by rw [hW]; simp
  have b5 : W.cell? ⟨w.heap.size, 5, none⟩ = some (.slice ao len cap) := by rw [hW]; simp
  have b6 : W.cell? ⟨w.heap.size, 6, none⟩ = some (.string tag) := by rw [hW]; simp
  have b7 : W.cell? ⟨w.heap.size, 7, none⟩ = some (.string body) := by rw [hW]; simp
  have hsW : w.heap.size < W.heap.size := by rw [hW]; simp
  have HW : Hid (Below w.heap.size w W) := by rw [hW]; exact (Below.refl _ w).alloc (Nat.le_refl _) _
  clear hW
  rcases hz.part with ⟨g, rfl⟩ | ⟨g, T, z, rfl, hf⟩
  · have G1 : Hid _ := g
    clear hz g
    go_wp2_with fail
    refine (stMay73 b L R N _ ((H1.out.2.below HW.out).s)).mono ?_
    rintro r w2 ⟨rfl, hb2⟩
    have HB2 : Hid (Below W.heap.size W w2) := hb2
    have HB2w : Hid (Below w.heap.size w w2) := HW.out.trans (hb2.mono HW.out.size)
    have c5 : w2.cell? ⟨w.heap.size, 5, none⟩ = some (.slice ao len cap) := (hb2.cell (p := ⟨w.heap.size, 5, none⟩) hsW).trans b5
    have hs2 : W.heap.size ≤ w2.heap.size := hb2.size
    cases hst : stOk L R N with
    | false =>
      have HF : Hid (M = false) := by show _ = _; rw [HM.out, hst, Bool.false_and, Bool.and_false]
      clear hb2
      go_wp2
      go_ret
      exact ⟨⟨_, rfl, .inr ⟨HF.out, 1, _, _, rfl, _, rfl⟩⟩, HB2w.out⟩
    | true =>
      clear hb2
      go_wp2_with fail
      refine (attrs54 ao len cap al w2 (H1.out.1.kept HB2w.out)).mono ?_
      rintro r w3 ⟨⟨ev, rfl, hz⟩, hb3⟩
      have HB3 : Hid (Below W.heap.size W w3) := HB2.out.trans (hb3.mono hs2)
      have HB3w : Hid (Below w.heap.size w w3) := HB2w.out.trans (hb3.mono HB2w.out.size)
      have c6 : w3.cell? ⟨w.heap.size, 6, none⟩ = some (.string tag) := (HB3.out.cell (p := ⟨w.heap.size, 6, none⟩) hsW).trans b6
      have c7 : w3.cell? ⟨w.heap.size, 7, none⟩ = some (.string body) := (HB3.out.cell (p := ⟨w.heap.size, 7, none⟩) hsW).trans b7
      have c4 : w3.cell? ⟨w.heap.size, 4, none⟩ = some (.bool dead) := (HB3.out.cell (p := ⟨w.heap.size, 4, none⟩) hsW).trans b4
      clear hb3 c5
      rcases hz.part with ⟨g, rfl⟩ | ⟨g, T, z, rfl, hf⟩
      · have G3 : Hid _ := g
        clear hz g
        go_wp2_with fail
        refine (q4 _).mono ?_
        rintro r w4 ⟨⟨ev, rfl, hz⟩, rfl⟩
        rcases hz.part with ⟨g, rfl⟩ | ⟨g, T, z, rfl, hf⟩
        · have G4 : Hid _ := g
          clear hz g
          go_wp2_with fail
          refine (q5 _).mono ?_
          rintro r w5 ⟨⟨ev, rfl, hz⟩, rfl⟩
          rcases hz.part with ⟨g, rfl⟩ | ⟨g, T, z, rfl, hf⟩
          · have HF : Hid (M = true) := by show _ = _; rw [HM.out, G1.out, hst, G3.out, G4.out, g]; rfl
            clear hz g q4 q5
            go_wp2
            go_ret
            exact ⟨⟨_, rfl, .inl ⟨HF.out, rfl⟩⟩, HB3w.out⟩
          · have HF : Hid (M = false) := by show _ = _; rw [HM.out, g]; simp
            have HE : Hid (∀ p : ByteArray, ∃ k, FauV k (.iface 114 (.agg #[.string p, .iface T z]))) := hf
            clear hz g q4 q5 hf
            go_wp2
            go_ret
            exact ⟨⟨_, rfl, .inr ⟨HF.out, HE.out _⟩⟩, HB3w.out⟩
        · have HF : Hid (M = false) := by show _ = _; rw [HM.out, g]; simp
          have HE : Hid (∀ p : ByteArray, ∃ k, FauV k (.iface 114 (.agg #[.string p, .iface T z]))) := hf
          clear hz g q4 q5 hf
          go_wp2
          go_ret
          exact ⟨⟨_, rfl, .inr ⟨HF.out, HE.out _⟩⟩, HB3w.out⟩
      · have HF : Hid (M = false) := by show _ = _; rw [HM.out, g]; simp
        have HE : Hid (∀ p : ByteArray, ∃ k, FauV k (.iface 114 (.agg #[.string p, .iface T z]))) := hf
        clear hz g q4 q5 hf
        go_wp2
        go_ret
        exact ⟨⟨_, rfl, .inr ⟨HF.out, HE.out _⟩⟩, HB3w.out⟩
  · have HF : Hid (M = false) := by show _ = _; rw [HM.out, g]; simp
    have HE : Hid (∀ p : ByteArray, ∃ k, FauV k (.iface 114 (.agg #[.string p, .iface T z]))) := hf
    clear hz g q4 q5 hf
    go_wp2
    go_ret
    exact ⟨⟨_, rfl, .inr ⟨HF.out, HE.out _⟩⟩, HW.out⟩

set_option maxHeartbeats 1000000 in
/-- errors.As of no error. -/
theorem as21_nil (T : TypeId) (x : Value) (w : World) : Calls Tryd.prog 21 #[.nilIface, .iface T x] w fun r w' => r = .returned (.bool false) ∧ w' = w := by
  go_enter Tryd.func21, Tryd.ntmps21
  go_wp2
  go_ret
  exact ⟨rfl, rfl⟩

set_option maxHeartbeats 2000000 in
/-- vers.May. -/
theorem may25 (a b : Addr) (v : Vn) (al : List (Int × Int)) (w : World) (hV : Vars w a b) (hH : Has w v al) (ht : v.tag.size ≤ maxLen) (hb : v.body.size ≤ maxLen) :
    Calls Tryd.prog 25 #[v.val] w fun r w' => r = .returned (.bool (mayI v al)) ∧ Below w.heap.size w w' := by
  have hlt := hV.lt
  obtain ⟨W, hW⟩ : ∃ W, W = (w.alloc (.cells (vcells v) 26)).alloc (.cells #[.string ⟨#[]⟩] 93) := ⟨_, rfl⟩
  have HW : Hid (Below w.heap.size w W) := by rw [hW]; exact ((Below.refl _ w).alloc (Nat.le_refl _) _).alloc (by simp) _
  have c1 := check43 a b v al W (hV.below HW.out) (hH.kept HW.out) ht hb
  have ht1 : W.cell? ⟨w.heap.size + 1, 0, none⟩ = some (.string ⟨#[]⟩) := by rw [hW]; simp
  have hf1 : W.frozen? ⟨w.heap.size + 1, 0, none⟩ = false := by rw [hW]; simp
  have hs1 : w.heap.size + 1 < W.heap.size := by rw [hW]; simp
  have HV : Hid (Vars W a b) := hV.below HW.out
  have HT : Hid (W.cell? ⟨w.heap.size + 1, 0, none⟩ = some (.string ⟨#[]⟩) ∧ W.frozen? ⟨w.heap.size + 1, 0, none⟩ = false) := ⟨ht1, hf1⟩
  have HS : Hid (w.heap.size + 1 < W.heap.size) := hs1
  have HWs : Hid (W = _) := hW
  clear hW hV hH ht hb ht1 hf1 hs1
  rw [HWs.out] at c1
  generalize mayI v al = M at *
  obtain ⟨it, L, R, N, dead, ao, len, cap, tag, body⟩ := v
  unfold vcells at *
  unfold Vn.val at *
  simp only at *
  go_enter Tryd.func25, Tryd.ntmps25
  go_wp2_with fail
  refine c1.mono ?_
  rintro r w1 ⟨⟨ev, rfl, hz⟩, hb1⟩
  rw [← HWs.out] at hb1
  have HB1 : Hid (Below w.heap.size w w1) := HW.out.trans (hb1.mono HW.out.size)
  rcases hz with ⟨rfl, rfl⟩ | ⟨rfl, k, hk⟩
  · have c2 := as21_nil 95 (.pointer (some ⟨w.heap.size + 1, 0, none⟩)) w1
    clear c1 hb1
    go_wp2_with fail
    refine c2.mono ?_
    rintro r w2 ⟨rfl, rfl⟩
    go_wp2
    go_ret
    exact ⟨rfl, HB1.out⟩
  · have c2 := as21V k ev (w.heap.size + 1) (.string ⟨#[]⟩) w1 ((HV.out.below hb1).e) hk ((hb1.cell (p := ⟨w.heap.size + 1, 0, none⟩) HS.out).trans HT.out.1) ((hb1.frozen (p := ⟨w.heap.size + 1, 0, none⟩) HS.out).trans HT.out.2)
    clear c1 hb1
    go_wp2_with fail
    refine c2.mono ?_
    rintro r w2 ⟨rfl, _, hk2⟩
    have HB2 : Hid (Below w.heap.size w w2) := HB1.out.trans (hk2.below HB1.out.size (fun k hk => by unfold But; omega))
    clear c2 hk2 hk
    go_wp2
    go_ret
    exact ⟨rfl, HB2.out⟩

end Go.Proofs.YtopkeembbopbmaaDoor
