/- BitsAll: how numbers and texts are bytes, and which bytes are numbers and texts. -/
import Derived.Test.YthlgfejdmigifaaDoorOne
namespace Go.Proofs.YthlgfejdmigifaaDoor
open Go.RowKit
set_option maxRecDepth 100000
set_option linter.unusedVariables false

theorem put8_rb (ao : Option Addr) (n cap : Nat) (l : List Nat) (v : Nat) (w : World) (hr : Rb w ao n cap l) (hn : n ≤ 100000) (hv : v < 9223372036854775808) : Calls Tryd.prog 8 #[.slice ao n cap, .int .i64 v] w fun r w' => ∃ xo N xc, r = .returned (.slice xo N xc) ∧ Rb w' xo N xc (l ++ put v) ∧ Below w.heap.size w w' := by
  refine (put8 ao n cap l v w hr hn hv).mono ?_
  rintro r w' ⟨x, rfl, hown, hb⟩
  obtain ⟨xo, xc, rfl, hx⟩ := own_rb hown (by intro y hy; rcases List.mem_append.1 hy with h | h; exact hr.lt y h; exact put_byte v y h)
  exact ⟨xo, _, xc, rfl, hx, hb⟩

theorem rput9_rb (ao : Option Addr) (n cap : Nat) (l : List Nat) (v : Nat) (w : World) (hr : Rb w ao n cap l) (hn : n ≤ 100000) (hv : v < 9223372036854775808) : Calls Tryd.prog 9 #[.slice ao n cap, .int .i64 v] w fun r w' => ∃ xo N xc, r = .returned (.slice xo N xc) ∧ Rb w' xo N xc (l ++ put v) ∧ Below w.heap.size w w' := by
  refine (rput9 ao n cap l v w hr hn hv).mono ?_
  rintro r w' ⟨x, rfl, hown, hb⟩
  obtain ⟨xo, xc, rfl, hx⟩ := own_rb hown (by intro y hy; rcases List.mem_append.1 hy with h | h; exact hr.lt y h; exact put_byte v y h)
  exact ⟨xo, _, xc, rfl, hx, hb⟩

theorem ptext10_rb (ao : Option Addr) (n cap : Nat) (l : List Nat) (s : ByteArray) (w : World) (hr : Rb w ao n cap l) (hn : n ≤ 100000) (hv : s.size ≤ 100000) : Calls Tryd.prog 10 #[.slice ao n cap, .string s] w fun r w' => ∃ xo N xc, r = .returned (.slice xo N xc) ∧ Rb w' xo N xc (l ++ putT s) ∧ Below w.heap.size w w' := by
  refine (ptext10 ao n cap l s w hr hn hv).mono ?_
  rintro r w' ⟨x, rfl, hown, hb⟩
  obtain ⟨xo, xc, rfl, hx⟩ := own_rb hown (by intro y hy; rcases List.mem_append.1 hy with h | h; exact hr.lt y h; exact putT_lt s y h)
  exact ⟨xo, _, xc, rfl, hx, hb⟩

theorem rptext11_rb (ao : Option Addr) (n cap : Nat) (l : List Nat) (s : ByteArray) (w : World) (hr : Rb w ao n cap l) (hn : n ≤ 100000) (hv : s.size ≤ 100000) : Calls Tryd.prog 11 #[.slice ao n cap, .string s] w fun r w' => ∃ xo N xc, r = .returned (.slice xo N xc) ∧ Rb w' xo N xc (l ++ putT s) ∧ Below w.heap.size w w' := by
  refine (rptext11 ao n cap l s w hr hn hv).mono ?_
  rintro r w' ⟨x, rfl, hown, hb⟩
  obtain ⟨xo, xc, rfl, hx⟩ := own_rb hown (by intro y hy; rcases List.mem_append.1 hy with h | h; exact hr.lt y h; exact putT_lt s y h)
  exact ⟨xo, _, xc, rfl, hx, hb⟩

/-- What is taken, as Go tells it. -/
def nx (l : List Nat) : Int := match take5 l with | some (v, _) => (v : Int) | none => 0
def nk (l : List Nat) : Int := match take5 l with | some (_, k) => (k : Int) | none => 0
def nb (l : List Nat) : Bool := match take5 l with | some _ => true | none => false
def tx (l : List Nat) : ByteArray := match tkText l with | some (t, _) => strs t | none => ⟨#[]⟩
def tk' (l : List Nat) : Int := match tkText l with | some (_, k) => (k : Int) | none => 0
def tb (l : List Nat) : Bool := match tkText l with | some _ => true | none => false

theorem take12_v (a : Addr) (ao : Option Addr) (n cap : Nat) (l : List Nat) (w : World) (hr : Rb w ao n cap l) (hn : n ≤ 100000) (hg : Err w a) :
    Calls Tryd.prog 12 #[.slice ao n cap] w fun r w' => r = .returned (.tuple #[.int .i64 (nx l), .int .i64 (nk l), .bool (nb l)]) ∧ Below w.heap.size w w' := by
  refine (take12 a ao n cap l w hr hn hg).mono ?_
  rintro r w' ⟨hb, h1, h2⟩
  refine ⟨?_, hb⟩
  unfold nx nk nb
  cases ht : take5 l with
  | none => exact h2 ht
  | some p => obtain ⟨v, k⟩ := p; exact h1 v k ht

theorem rnum13_v (ao : Option Addr) (n cap : Nat) (l : List Nat) (w : World) (hr : Rb w ao n cap l) (hn : n ≤ 100000) :
    Calls Tryd.prog 13 #[.slice ao n cap] w fun r w' => r = .returned (.tuple #[.int .i64 (nx l), .int .i64 (nk l), .bool (nb l)]) ∧ w' = w := by
  refine (rnum13 ao n cap l w hr hn).mono ?_
  rintro r w' ⟨hb, h1, h2⟩
  refine ⟨?_, hb⟩
  unfold nx nk nb
  cases ht : take5 l with
  | none => exact h2 ht
  | some p => obtain ⟨v, k⟩ := p; exact h1 v k ht

theorem take14_v (a : Addr) (ao : Option Addr) (n cap : Nat) (l : List Nat) (w : World) (hr : Rb w ao n cap l) (hn : n ≤ 100000) (hg : Err w a) :
    Calls Tryd.prog 14 #[.slice ao n cap] w fun r w' => r = .returned (.tuple #[.string (tx l), .int .i64 (tk' l), .bool (tb l)]) ∧ Below w.heap.size w w' := by
  refine (take14 a ao n cap l w hr hn hg).mono ?_
  rintro r w' ⟨hb, h1, h2⟩
  refine ⟨?_, hb⟩
  unfold tx tk' tb
  cases ht : tkText l with
  | none => exact h2 ht
  | some p => obtain ⟨v, k⟩ := p; exact h1 v k ht

theorem rtext15_v (ao : Option Addr) (n cap : Nat) (l : List Nat) (w : World) (hr : Rb w ao n cap l) (hn : n ≤ 100000) :
    Calls Tryd.prog 15 #[.slice ao n cap] w fun r w' => r = .returned (.tuple #[.string (tx l), .int .i64 (tk' l), .bool (tb l)]) ∧ w' = w := by
  refine (rtext15 ao n cap l w hr hn).mono ?_
  rintro r w' ⟨hb, h1, h2⟩
  refine ⟨?_, hb⟩
  unfold tx tk' tb
  cases ht : tkText l with
  | none => exact h2 ht
  | some p => obtain ⟨v, k⟩ := p; exact h1 v k ht

set_option maxHeartbeats 4000000 in
theorem all3_short (a : Addr) (v : Nat) (s : ByteArray) (ao : Option Addr) (n cap : Nat) (l : List Nat) (fo : Option Addr) (fn fc : Nat) (fl : List Nat) (w : World) (hg : Err w a) (hv : v < 4294967296) (hs : s.size ≤ 200) (hr : Rb w ao n cap l) (hf : Rb w fo fn fc fl) (hn : n ≤ 20) (hfn : fn ≤ 5) :
    Calls Tryd.prog 3 #[.int .u32 v, .string s, .slice ao n cap, .slice fo fn fc] w fun r w' => r = .returned (.bool true) ∧ Below w.heap.size w w' := by
  have c1 := begun7 a w hg
  have HG : Hid (Err w a) := hg
  have HR : Hid (Rb w ao n cap l) := hr
  have HF : Hid (Rb w fo fn fc fl) := hf
  have hn1 : ¬ (20 : Int) < n := by omega
  have hn2 : decide ((20 : Int) < (n : Int)) = false := decide_eq_false hn1
  have hn3 : decide (20 < n) = false := decide_eq_false (by omega)
  have hf1 : ¬ (5 : Int) < fn := by omega
  have hf2 : decide ((5 : Int) < (fn : Int)) = false := decide_eq_false hf1
  have hf3 : decide (5 < fn) = false := decide_eq_false (by omega)
  have hs1 : ¬ (200 : Int) < s.size := by omega
  have hs2 : decide ((200 : Int) < (s.size : Int)) = false := decide_eq_false hs1
  have hs3 : decide (200 < s.size) = false := decide_eq_false (by omega)
  clear hg hr hf
  go_enter Tryd.func3, Tryd.ntmps3
  go_wp2_with fail
  refine c1.mono ?_
  rintro r w1 ⟨rfl, hb1⟩
  have HB1 : Hid (Below w.heap.size w w1) := hb1
  have HF1 : Hid (Rb w1 fo fn fc fl) := HF.out.kept hb1
  clear c1 hb1
  go_wp2_with fail
  have hdr : Below w1.heap.size w1 w1.drew := (Below.refl _ w1).drew
  refine wp_region_held_drew (S := fun W => Below w1.heap.size w1 W) (by kernel_rfl) ?_ (fun hHeld => ?_)
  · (try dsimp only)
    exact hdr
  refine wpAnyH_take (i := 0) (oi := { dst := some 39, op := Go.Op.move (Go.Operand.tmp 3), type := 23, pos := "law.go:27", after := #[], guard := none }) (v := ?_) rfl (by kernel_rfl) (by kernel_rfl) (by kernel_rfl) (fun _ _ _ h => h) (Or.inl ⟨by rfl, ?_⟩) (by assumption) ?_
  rotate_left
  · intro w hSw
    (try dsimp only at hSw)
    go_simp
    try with_reducible rfl
  simp only [Act.put, List.setIfInBounds_toArray, List.set_cons_zero, List.set_cons_succ]
  refine wpAnyH_take (i := 1) (oi := { dst := some 40, op := Go.Op.move (Go.Operand.tmp 9), type := 3, pos := "law.go:27", after := #[], guard := none }) (v := ?_) rfl (by kernel_rfl) (by kernel_rfl) (by kernel_rfl) (fun _ _ _ h => h) (Or.inl ⟨by rfl, ?_⟩) (by assumption) ?_
  rotate_left
  · intro w hSw
    (try dsimp only at hSw)
    go_simp
    try with_reducible rfl
  simp only [Act.put, List.setIfInBounds_toArray, List.set_cons_zero, List.set_cons_succ]
  refine wpAnyH_take (i := 4) (oi := { dst := some 43, op := Go.Op.move (Go.Operand.tmp 3), type := 23, pos := "law.go:27", after := #[], guard := none }) (v := ?_) rfl (by kernel_rfl) (by kernel_rfl) (by kernel_rfl) (fun _ _ _ h => h) (Or.inl ⟨by rfl, ?_⟩) (by assumption) ?_
  rotate_left
  · intro w hSw
    (try dsimp only at hSw)
    go_simp
    try with_reducible rfl
  simp only [Act.put, List.setIfInBounds_toArray, List.set_cons_zero, List.set_cons_succ]
  refine wpAnyH_take (i := 5) (oi := { dst := some 44, op := Go.Op.move (Go.Operand.tmp 9), type := 3, pos := "law.go:27", after := #[], guard := none }) (v := ?_) rfl (by kernel_rfl) (by kernel_rfl) (by kernel_rfl) (fun _ _ _ h => h) (Or.inl ⟨by rfl, ?_⟩) (by assumption) ?_
  rotate_left
  · intro w hSw
    (try dsimp only at hSw)
    go_simp
    try with_reducible rfl
  simp only [Act.put, List.setIfInBounds_toArray, List.set_cons_zero, List.set_cons_succ]
  refine wpAnyH_ready (rs := [2]) (by kernel_rfl) (by simp) ?_
  refine AllReadyH.cons (o := { dst := some 41, op := Go.Op.call { callee := Go.Callee.value (Go.Operand.func 8), args := #[Go.Operand.tmp 39, Go.Operand.tmp 40], argTypes := #[23, 3] }, type := 23, pos := "law.go:27", after := #[{ on := 0, ground := Go.Ground.data }, { on := 1, ground := Go.Ground.data }], guard := none }) rfl (fun K hK => ?_) AllReadyH.nil
  go_simp
  refine (put8_rb fo fn fc fl v _ (HF1.out.kept hdr) (by omega) (by omega)).mono ?_
  rintro r W2 ⟨xoW2, xnW2, xcW2, rfl, hrx, hbx⟩
  have hsW2 : Below w1.drew.heap.size w1.drew W2 := hbx
  have hqW2 : Below w1.heap.size w1 W2 := hdr.trans (hbx.mono hdr.size)
  have cvW2 : ∀ W, Below W2.heap.size W2 W → (convert 23 9 (.slice xoW2 xnW2 xcW2)).run Tryd.prog W = .ok (.string (strs (fl ++ put v))) W := fun W hW => conv_rb (hrx.kept hW)
  clear hrx hbx
  refine hK.out _ _ ?_ (fun hHeld => ?_)
  · (try dsimp only)
    exact hqW2
  clear hK K hHeld
  try simp only [Act.put, List.setIfInBounds_toArray, List.set_cons_zero, List.set_cons_succ]
  refine wpAnyH_strong (S' := fun W => Below W2.heap.size W2 W) (fun W h => hqW2.trans (h.mono hqW2.size)) _ _ _ _ ?_
  have hHeld : Below W2.heap.size W2 W2 := Below.refl _ _
  refine wpAnyH_take (i := 3) (oi := { dst := some 42, op := Go.Op.convert 23 9 (Go.Operand.tmp 41), type := 9, pos := "law.go:27", after := #[{ on := 2, ground := Go.Ground.data }], guard := none }) (v := ?_) rfl (by kernel_rfl) (by kernel_rfl) (by kernel_rfl) (fun _ _ _ h => h) (Or.inl ⟨by rfl, ?_⟩) (by assumption) ?_
  rotate_left
  · intro w hSw
    (try dsimp only at hSw)
    go_simp
    try with_reducible rfl
  simp only [Act.put, List.setIfInBounds_toArray, List.set_cons_zero, List.set_cons_succ]
  refine wpAnyH_ready (rs := [6]) (by kernel_rfl) (by simp) ?_
  refine AllReadyH.cons (o := { dst := some 45, op := Go.Op.call { callee := Go.Callee.value (Go.Operand.func 9), args := #[Go.Operand.tmp 43, Go.Operand.tmp 44], argTypes := #[23, 3] }, type := 23, pos := "law.go:27", after := #[{ on := 4, ground := Go.Ground.data }, { on := 5, ground := Go.Ground.data }, { on := 2, ground := Go.Ground.chain }], guard := none }) rfl (fun K hK => ?_) AllReadyH.nil
  go_simp
  refine (rput9_rb fo fn fc fl v _ (HF1.out.kept hqW2) (by omega) (by omega)).mono ?_
  rintro r W3 ⟨xoW3, xnW3, xcW3, rfl, hrx, hbx⟩
  have hsW3 : Below W2.heap.size W2 W3 := hbx
  have hqW3 : Below w1.heap.size w1 W3 := hqW2.trans (hbx.mono hqW2.size)
  have cvW3 : ∀ W, Below W3.heap.size W3 W → (convert 23 9 (.slice xoW3 xnW3 xcW3)).run Tryd.prog W = .ok (.string (strs (fl ++ put v))) W := fun W hW => conv_rb (hrx.kept hW)
  clear hrx hbx
  refine hK.out _ _ ?_ (fun hHeld => ?_)
  · (try dsimp only)
    exact hsW3
  clear hK K hHeld
  try simp only [Act.put, List.setIfInBounds_toArray, List.set_cons_zero, List.set_cons_succ]
  refine wpAnyH_strong (S' := fun W => Below W3.heap.size W3 W) (fun W h => hsW3.trans (h.mono hsW3.size)) _ _ _ _ ?_
  have hHeld : Below W3.heap.size W3 W3 := Below.refl _ _
  refine wpAnyH_take (i := 7) (oi := { dst := some 46, op := Go.Op.convert 23 9 (Go.Operand.tmp 45), type := 9, pos := "law.go:27", after := #[{ on := 6, ground := Go.Ground.data }], guard := none }) (v := ?_) rfl (by kernel_rfl) (by kernel_rfl) (by kernel_rfl) (fun _ _ _ h => h) (Or.inl ⟨by rfl, ?_⟩) (by assumption) ?_
  rotate_left
  · intro w hSw
    (try dsimp only at hSw)
    go_simp
    try with_reducible rfl
  simp only [Act.put, List.setIfInBounds_toArray, List.set_cons_zero, List.set_cons_succ]
  refine wpAnyH_take (i := 8) (oi := { dst := some 47, op := Go.Op.binOp Go.BinOp.neq 9 (Go.Operand.tmp 42) (Go.Operand.tmp 46) 9, type := 4, pos := "law.go:27", after := #[{ on := 3, ground := Go.Ground.data }, { on := 7, ground := Go.Ground.data }], guard := none }) (v := ?_) rfl (by kernel_rfl) (by kernel_rfl) (by kernel_rfl) (fun _ _ _ h => h) (Or.inl ⟨by rfl, ?_⟩) (by assumption) ?_
  rotate_left
  · intro w hSw
    (try dsimp only at hSw)
    go_simp
    try with_reducible rfl
  simp only [Act.put, List.setIfInBounds_toArray, List.set_cons_zero, List.set_cons_succ]
  refine wpAnyH_take (i := 9) (oi := { dst := some 48, op := Go.Op.move (Go.Operand.tmp 47), type := 4, pos := "law.go:27", after := #[{ on := 8, ground := Go.Ground.data }, { on := 6, ground := Go.Ground.chain }], guard := none }) (v := ?_) rfl (by kernel_rfl) (by kernel_rfl) (by kernel_rfl) (fun _ _ _ h => h) (Or.inl ⟨by rfl, ?_⟩) (by assumption) ?_
  rotate_left
  · intro w hSw
    (try dsimp only at hSw)
    go_simp
    try with_reducible rfl
  simp only [Act.put, List.setIfInBounds_toArray, List.set_cons_zero, List.set_cons_succ]
  refine wpAnyH_take (i := 10) (oi := { dst := some 49, op := Go.Op.move (Go.Operand.tmp 3), type := 23, pos := "law.go:27", after := #[{ on := 9, ground := Go.Ground.guard }], guard := some (9, false) }) (v := ?_) rfl (by kernel_rfl) (by kernel_rfl) (by kernel_rfl) (fun _ _ _ h => h) (Or.inl ⟨by rfl, ?_⟩) (by assumption) ?_
  rotate_left
  · intro w hSw
    (try dsimp only at hSw)
    go_simp
    try with_reducible rfl
  simp only [Act.put, List.setIfInBounds_toArray, List.set_cons_zero, List.set_cons_succ]
  refine wpAnyH_take (i := 11) (oi := { dst := some 50, op := Go.Op.move (Go.Operand.tmp 1), type := 9, pos := "law.go:27", after := #[{ on := 9, ground := Go.Ground.guard }], guard := some (9, false) }) (v := ?_) rfl (by kernel_rfl) (by kernel_rfl) (by kernel_rfl) (fun _ _ _ h => h) (Or.inl ⟨by rfl, ?_⟩) (by assumption) ?_
  rotate_left
  · intro w hSw
    (try dsimp only at hSw)
    go_simp
    try with_reducible rfl
  simp only [Act.put, List.setIfInBounds_toArray, List.set_cons_zero, List.set_cons_succ]
  refine wpAnyH_take (i := 14) (oi := { dst := some 53, op := Go.Op.move (Go.Operand.tmp 3), type := 23, pos := "law.go:27", after := #[{ on := 9, ground := Go.Ground.guard }], guard := some (9, false) }) (v := ?_) rfl (by kernel_rfl) (by kernel_rfl) (by kernel_rfl) (fun _ _ _ h => h) (Or.inl ⟨by rfl, ?_⟩) (by assumption) ?_
  rotate_left
  · intro w hSw
    (try dsimp only at hSw)
    go_simp
    try with_reducible rfl
  simp only [Act.put, List.setIfInBounds_toArray, List.set_cons_zero, List.set_cons_succ]
  refine wpAnyH_take (i := 15) (oi := { dst := some 54, op := Go.Op.move (Go.Operand.tmp 1), type := 9, pos := "law.go:27", after := #[{ on := 9, ground := Go.Ground.guard }], guard := some (9, false) }) (v := ?_) rfl (by kernel_rfl) (by kernel_rfl) (by kernel_rfl) (fun _ _ _ h => h) (Or.inl ⟨by rfl, ?_⟩) (by assumption) ?_
  rotate_left
  · intro w hSw
    (try dsimp only at hSw)
    go_simp
    try with_reducible rfl
  simp only [Act.put, List.setIfInBounds_toArray, List.set_cons_zero, List.set_cons_succ]
  refine wpAnyH_ready (rs := [12]) (by kernel_rfl) (by simp) ?_
  refine AllReadyH.cons (o := { dst := some 51, op := Go.Op.call { callee := Go.Callee.value (Go.Operand.func 10), args := #[Go.Operand.tmp 49, Go.Operand.tmp 50], argTypes := #[23, 9] }, type := 23, pos := "law.go:27", after := #[{ on := 10, ground := Go.Ground.data }, { on := 11, ground := Go.Ground.data }, { on := 9, ground := Go.Ground.chain }, { on := 9, ground := Go.Ground.guard }], guard := some (9, false) }) rfl (fun K hK => ?_) AllReadyH.nil
  go_simp
  refine (ptext10_rb fo fn fc fl s _ (HF1.out.kept hqW3) (by omega) (by omega)).mono ?_
  rintro r W4 ⟨xoW4, xnW4, xcW4, rfl, hrx, hbx⟩
  have hsW4 : Below W3.heap.size W3 W4 := hbx
  have hqW4 : Below w1.heap.size w1 W4 := hqW3.trans (hbx.mono hqW3.size)
  have cvW4 : ∀ W, Below W4.heap.size W4 W → (convert 23 9 (.slice xoW4 xnW4 xcW4)).run Tryd.prog W = .ok (.string (strs (fl ++ putT s))) W := fun W hW => conv_rb (hrx.kept hW)
  clear hrx hbx
  refine hK.out _ _ ?_ (fun hHeld => ?_)
  · (try dsimp only)
    exact hsW4
  clear hK K hHeld
  try simp only [Act.put, List.setIfInBounds_toArray, List.set_cons_zero, List.set_cons_succ]
  refine wpAnyH_strong (S' := fun W => Below W4.heap.size W4 W) (fun W h => hsW4.trans (h.mono hsW4.size)) _ _ _ _ ?_
  have hHeld : Below W4.heap.size W4 W4 := Below.refl _ _
  refine wpAnyH_take (i := 13) (oi := { dst := some 52, op := Go.Op.convert 23 9 (Go.Operand.tmp 51), type := 9, pos := "law.go:27", after := #[{ on := 12, ground := Go.Ground.data }, { on := 9, ground := Go.Ground.guard }], guard := some (9, false) }) (v := ?_) rfl (by kernel_rfl) (by kernel_rfl) (by kernel_rfl) (fun _ _ _ h => h) (Or.inl ⟨by rfl, ?_⟩) (by assumption) ?_
  rotate_left
  · intro w hSw
    (try dsimp only at hSw)
    go_simp
    try with_reducible rfl
  simp only [Act.put, List.setIfInBounds_toArray, List.set_cons_zero, List.set_cons_succ]
  refine wpAnyH_ready (rs := [16]) (by kernel_rfl) (by simp) ?_
  refine AllReadyH.cons (o := { dst := some 55, op := Go.Op.call { callee := Go.Callee.value (Go.Operand.func 11), args := #[Go.Operand.tmp 53, Go.Operand.tmp 54], argTypes := #[23, 9] }, type := 23, pos := "law.go:27", after := #[{ on := 14, ground := Go.Ground.data }, { on := 15, ground := Go.Ground.data }, { on := 12, ground := Go.Ground.chain }, { on := 9, ground := Go.Ground.guard }], guard := some (9, false) }) rfl (fun K hK => ?_) AllReadyH.nil
  go_simp
  refine (rptext11_rb fo fn fc fl s _ (HF1.out.kept hqW4) (by omega) (by omega)).mono ?_
  rintro r W5 ⟨xoW5, xnW5, xcW5, rfl, hrx, hbx⟩
  have hsW5 : Below W4.heap.size W4 W5 := hbx
  have hqW5 : Below w1.heap.size w1 W5 := hqW4.trans (hbx.mono hqW4.size)
  have cvW5 : ∀ W, Below W5.heap.size W5 W → (convert 23 9 (.slice xoW5 xnW5 xcW5)).run Tryd.prog W = .ok (.string (strs (fl ++ putT s))) W := fun W hW => conv_rb (hrx.kept hW)
  clear hrx hbx
  refine hK.out _ _ ?_ (fun hHeld => ?_)
  · (try dsimp only)
    exact hsW5
  clear hK K hHeld
  try simp only [Act.put, List.setIfInBounds_toArray, List.set_cons_zero, List.set_cons_succ]
  refine wpAnyH_strong (S' := fun W => Below W5.heap.size W5 W) (fun W h => hsW5.trans (h.mono hsW5.size)) _ _ _ _ ?_
  have hHeld : Below W5.heap.size W5 W5 := Below.refl _ _
  refine wpAnyH_take (i := 17) (oi := { dst := some 56, op := Go.Op.convert 23 9 (Go.Operand.tmp 55), type := 9, pos := "law.go:27", after := #[{ on := 16, ground := Go.Ground.data }, { on := 9, ground := Go.Ground.guard }], guard := some (9, false) }) (v := ?_) rfl (by kernel_rfl) (by kernel_rfl) (by kernel_rfl) (fun _ _ _ h => h) (Or.inl ⟨by rfl, ?_⟩) (by assumption) ?_
  rotate_left
  · intro w hSw
    (try dsimp only at hSw)
    go_simp
    try with_reducible rfl
  simp only [Act.put, List.setIfInBounds_toArray, List.set_cons_zero, List.set_cons_succ]
  refine wpAnyH_take (i := 18) (oi := { dst := some 57, op := Go.Op.binOp Go.BinOp.neq 9 (Go.Operand.tmp 52) (Go.Operand.tmp 56) 9, type := 4, pos := "law.go:27", after := #[{ on := 13, ground := Go.Ground.data }, { on := 17, ground := Go.Ground.data }, { on := 9, ground := Go.Ground.guard }], guard := some (9, false) }) (v := ?_) rfl (by kernel_rfl) (by kernel_rfl) (by kernel_rfl) (fun _ _ _ h => h) (Or.inl ⟨by rfl, ?_⟩) (by assumption) ?_
  rotate_left
  · intro w hSw
    (try dsimp only at hSw)
    go_simp
    try with_reducible rfl
  simp only [Act.put, List.setIfInBounds_toArray, List.set_cons_zero, List.set_cons_succ]
  refine wpAnyH_take (i := 19) (oi := { dst := some 58, op := Go.Op.pick (Go.Operand.tmp 48) (Go.Operand.const (Go.Value.bool true)) (Go.Operand.tmp 57), type := 4, pos := "law.go:27", after := #[{ on := 9, ground := Go.Ground.data }, { on := 18, ground := Go.Ground.data }], guard := none }) (v := ?_) rfl (by kernel_rfl) (by kernel_rfl) (by kernel_rfl) (fun _ _ _ h => h) (Or.inl ⟨by rfl, ?_⟩) (by assumption) ?_
  rotate_left
  · intro w hSw
    (try dsimp only at hSw)
    go_simp
    try with_reducible rfl
  simp only [Act.put, List.setIfInBounds_toArray, List.set_cons_zero, List.set_cons_succ]
  refine wpAnyH_done (by kernel_rfl) ?_ _
  have HB5 : Hid (Below w.heap.size w W5) := HB1.out.trans (hqW5.mono HB1.out.size)
  clear hHeld cvW2 cvW3 cvW4 cvW5 hsW2 hsW3 hsW4 hsW5 hqW2 hqW3 hqW4 hqW5 hdr HB1 HF1
  have c2 := take12_v a ao n cap l W5 (HR.out.kept HB5.out) (by omega) (HG.out.below HB5.out)
  have c3 := fun w => rnum13_v ao n cap l w
  have HC3 : Hid (∀ w, Rb w ao n cap l → n ≤ 100000 → _) := c3
  have HC5 : Hid (∀ w, Rb w ao n cap l → n ≤ 100000 → _) := fun w => rtext15_v ao n cap l w
  have HC4 : Hid (∀ w, Rb w ao n cap l → n ≤ 100000 → Err w a → _) := fun w => take14_v a ao n cap l w
  clear c3
  generalize nx l = x at *
  generalize nk l = k at *
  generalize nb l = ok at *
  generalize tx l = t at *
  generalize tk' l = m at *
  generalize tb l = is at *
  go_wp2_with fail
  refine c2.mono ?_
  rintro r w6 ⟨rfl, hb⟩
  have HB6 : Hid (Below w.heap.size w w6) := HB5.out.trans (hb.mono HB5.out.size)
  have c3 := HC3.out w6 (HR.out.kept HB6.out) (by omega)
  clear c2 hb HB5 HC3
  go_wp2_with fail
  refine c3.mono ?_
  rintro r w7 ⟨rfl, rfl⟩
  have c4 := HC4.out w7 (HR.out.kept HB6.out) (by omega) (HG.out.below HB6.out)
  clear c3 HC4
  go_wp2_with fail
  refine c4.mono ?_
  rintro r w8 ⟨rfl, hb⟩
  have HB8 : Hid (Below w.heap.size w w8) := HB6.out.trans (hb.mono HB6.out.size)
  have c5 := HC5.out w8 (HR.out.kept HB8.out) (by omega)
  clear c4 hb HB6 HC5
  go_wp2_with fail
  refine c5.mono ?_
  rintro r w9 ⟨rfl, rfl⟩
  clear c5
  go_wp2
  go_ret
  exact ⟨rfl, HB8.out⟩

set_option maxHeartbeats 1000000 in
theorem all3_long (a : Addr) (v : Nat) (s : ByteArray) (ao : Option Addr) (n cap : Nat) (fo : Option Addr) (fn fc : Nat) (w : World) (hg : Err w a) (h : 200 < s.size ∨ 20 < n ∨ 5 < fn) :
    Calls Tryd.prog 3 #[.int .u32 v, .string s, .slice ao n cap, .slice fo fn fc] w fun r w' => r = .returned (.bool true) ∧ Below w.heap.size w w' := by
  have c1 := begun7 a w hg
  clear hg
  by_cases h1 : 200 < s.size
  · have hs1 : (200 : Int) < s.size := by omega
    have hs2 : decide ((200 : Int) < (s.size : Int)) = true := decide_eq_true hs1
    have hs3 : decide (200 < s.size) = true := decide_eq_true h1
    go_enter Tryd.func3, Tryd.ntmps3
    go_wp2_with fail
    refine c1.mono ?_
    rintro r w1 ⟨rfl, hb1⟩
    have HB1 : Hid (Below w.heap.size w w1) := hb1
    clear c1 hb1
    go_wp2
    go_ret
    exact ⟨rfl, HB1.out⟩
  · have hs1 : ¬ (200 : Int) < s.size := by omega
    have hs2 : decide ((200 : Int) < (s.size : Int)) = false := decide_eq_false hs1
    have hs3 : decide (200 < s.size) = false := decide_eq_false h1
    by_cases h2 : 20 < n
    · have hn1 : (20 : Int) < n := by omega
      have hn2 : decide ((20 : Int) < (n : Int)) = true := decide_eq_true hn1
      have hn3 : decide (20 < n) = true := decide_eq_true h2
      go_enter Tryd.func3, Tryd.ntmps3
      go_wp2_with fail
      refine c1.mono ?_
      rintro r w1 ⟨rfl, hb1⟩
      have HB1 : Hid (Below w.heap.size w w1) := hb1
      clear c1 hb1
      go_wp2
      go_ret
      exact ⟨rfl, HB1.out⟩
    · have hn1 : ¬ (20 : Int) < n := by omega
      have hn2 : decide ((20 : Int) < (n : Int)) = false := decide_eq_false hn1
      have hn3 : decide (20 < n) = false := decide_eq_false h2
      have h3 : 5 < fn := by omega
      have hf1 : (5 : Int) < fn := by omega
      have hf2 : decide ((5 : Int) < (fn : Int)) = true := decide_eq_true hf1
      have hf3 : decide (5 < fn) = true := decide_eq_true h3
      clear h
      go_enter Tryd.func3, Tryd.ntmps3
      go_wp2_with fail
      refine c1.mono ?_
      rintro r w1 ⟨rfl, hb1⟩
      have HB1 : Hid (Below w.heap.size w w1) := hb1
      clear c1 hb1
      go_wp2
      go_ret
      exact ⟨rfl, HB1.out⟩

/-- BitsAll. -/
theorem all3 (a : Addr) (v : Nat) (s : ByteArray) (ao : Option Addr) (n cap : Nat) (l : List Nat) (fo : Option Addr) (fn fc : Nat) (fl : List Nat) (w : World) (hg : Err w a) (hv : v < 4294967296) (hs : s.size ≤ maxLen) (hr : Rb w ao n cap l) (hf : Rb w fo fn fc fl) :
    Calls Tryd.prog 3 #[.int .u32 v, .string s, .slice ao n cap, .slice fo fn fc] w fun r w' => r = .returned (.bool true) ∧ Below w.heap.size w w' := by
  by_cases h : 200 < s.size ∨ 20 < n ∨ 5 < fn
  · exact all3_long a v s ao n cap fo fn fc w hg h
  · exact all3_short a v s ao n cap l fo fn fc fl w hg hv (by omega) hr hf (by omega) (by omega)

end Go.Proofs.YthlgfejdmigifaaDoor
