/- cardamomref4.SameBox, cardamomref4.SameBoxes of what is the same. -/
import Derived.Test.YtflpdekifkcfkaaTwo
import Derived.BigQuiet
import Derived.Deep.QuietTactic
import Derived.Deep.LoopGhost
import Derived.Deep.RegionHeld3
import Derived.ChangeKeysEq
namespace Go.Proofs.Ytflpdekifkcfkaa
open Go.RowKit
set_option linter.unusedVariables false

set_option maxRecDepth 100000 in
set_option maxHeartbeats 1000000 in
/-- Four sides are what they are. -/
theorem keys_same (a0 a1 a2 a3 a4 a5 a6 a7 a8 a9 a10 a11 : Int) (w : World) : (Op.equalIn 10000 45 (.agg #[.int .i64 a0, .int .i64 a1, .int .i64 a2, .int .i64 a3, .int .i64 a4, .int .i64 a5, .int .i64 a6, .int .i64 a7, .int .i64 a8, .int .i64 a9, .int .i64 a10, .int .i64 a11]) (.agg #[.int .i64 a0, .int .i64 a1, .int .i64 a2, .int .i64 a3, .int .i64 a4, .int .i64 a5, .int .i64 a6, .int .i64 a7, .int .i64 a8, .int .i64 a9, .int .i64 a10, .int .i64 a11])).run Try.prog w = .ok true w := by
  have h0 : (Try.prog.info? 44).isSome = true := by kernel_rfl
  obtain ⟨i, hi⟩ := Option.isSome_iff_exists.1 h0
  have hc : Try.prog.cellsOf 44 = 3 := by kernel_rfl
  have side : ∀ (a b c : Int) (w : World), (Op.equalIn 9999 44 (.agg #[.int .i64 a, .int .i64 b, .int .i64 c]) (.agg #[.int .i64 a, .int .i64 b, .int .i64 c])).run Try.prog w = .ok true w := by
    intro a b c w
    go_simp
  have pt : ∀ (xs : Array Value) (off : Nat) (w : World), (_root_.Go.part 44 xs off).run Try.prog w = .ok (.agg (xs.extract off (off + 3))) w := by
    intro xs off w
    go_simp
  rw [run_equalIn_array w 9999 _ _ Try.underlying45 hi, hc]
  simp [List.range, List.range.loop, Op.eqItems, Sem.run_bind, pt, Result.andThen_ok, side]

set_option maxRecDepth 100000 in
set_option maxHeartbeats 4000000 in
theorem same_any (a0 a1 a2 a3 a4 a5 a6 a7 a8 a9 a10 a11 : Int) (t : ByteArray) (l : List (List UInt8)) (ao bo : Option Addr) (ca cb A B : Nat) (w : World) (hl : l.length ≤ 1000) (ha : Nt A w ao ca l) (hb : Nt B w bo cb l) :
    Calls Try.prog 21 #[.agg #[.int .i64 a0, .int .i64 a1, .int .i64 a2, .int .i64 a3, .int .i64 a4, .int .i64 a5, .int .i64 a6, .int .i64 a7, .int .i64 a8, .int .i64 a9, .int .i64 a10, .int .i64 a11, .string t, .slice ao l.length ca], .agg #[.int .i64 a0, .int .i64 a1, .int .i64 a2, .int .i64 a3, .int .i64 a4, .int .i64 a5, .int .i64 a6, .int .i64 a7, .int .i64 a8, .int .i64 a9, .int .i64 a10, .int .i64 a11, .string t, .slice bo l.length cb]] w fun e w' => e = .returned (.bool true) ∧ Below w.heap.size w w' := by
  have ks := fun w => keys_same a0 a1 a2 a3 a4 a5 a6 a7 a8 a9 a10 a11 w
  obtain ⟨W, hW⟩ : ∃ W, W = (w.alloc (.cells #[.int .i64 a0, .int .i64 a1, .int .i64 a2, .int .i64 a3, .int .i64 a4, .int .i64 a5, .int .i64 a6, .int .i64 a7, .int .i64 a8, .int .i64 a9, .int .i64 a10, .int .i64 a11, .string t, .slice ao l.length ca] 48)).alloc (.cells #[.int .i64 a0, .int .i64 a1, .int .i64 a2, .int .i64 a3, .int .i64 a4, .int .i64 a5, .int .i64 a6, .int .i64 a7, .int .i64 a8, .int .i64 a9, .int .i64 a10, .int .i64 a11, .string t, .slice bo l.length cb] 48) := ⟨_, rfl⟩
  have hbW : Below w.heap.size w W := by rw [hW]; exact ((Below.refl _ _).alloc (Nat.le_refl _) _).alloc (by simp) _
  have f1 : ∀ i, W.cell? ⟨w.heap.size, i, none⟩ = (#[.int .i64 a0, .int .i64 a1, .int .i64 a2, .int .i64 a3, .int .i64 a4, .int .i64 a5, .int .i64 a6, .int .i64 a7, .int .i64 a8, .int .i64 a9, .int .i64 a10, .int .i64 a11, .string t, .slice ao l.length ca] : Array Value)[i]? := fun i => by rw [hW, World.cell?_alloc_past _ _ _ (hn := by simp)]; simp
  have f2 : ∀ i, W.cell? ⟨w.heap.size + 1, i, none⟩ = (#[.int .i64 a0, .int .i64 a1, .int .i64 a2, .int .i64 a3, .int .i64 a4, .int .i64 a5, .int .i64 a6, .int .i64 a7, .int .i64 a8, .int .i64 a9, .int .i64 a10, .int .i64 a11, .string t, .slice bo l.length cb] : Array Value)[i]? := fun i => by rw [hW, World.cell?_alloc_at _ _ _ _ (by simp)]
  have hsW : w.heap.size + 1 < W.heap.size := by rw [hW]; simp
  have hN : Hid (Nt A W ao ca l ∧ Nt B W bo cb l ∧ Below w.heap.size w W) := ⟨ha.below hbW, hb.below hbW, hbW⟩
  have HW : Hid (W = (w.alloc (.cells #[.int .i64 a0, .int .i64 a1, .int .i64 a2, .int .i64 a3, .int .i64 a4, .int .i64 a5, .int .i64 a6, .int .i64 a7, .int .i64 a8, .int .i64 a9, .int .i64 a10, .int .i64 a11, .string t, .slice ao l.length ca] 48)).alloc (.cells #[.int .i64 a0, .int .i64 a1, .int .i64 a2, .int .i64 a3, .int .i64 a4, .int .i64 a5, .int .i64 a6, .int .i64 a7, .int .i64 a8, .int .i64 a9, .int .i64 a10, .int .i64 a11, .string t, .slice bo l.length cb] 48)) := hW
  have HF : Hid ((∀ i, W.cell? ⟨w.heap.size, i, none⟩ = (#[.int .i64 a0, .int .i64 a1, .int .i64 a2, .int .i64 a3, .int .i64 a4, .int .i64 a5, .int .i64 a6, .int .i64 a7, .int .i64 a8, .int .i64 a9, .int .i64 a10, .int .i64 a11, .string t, .slice ao l.length ca] : Array Value)[i]?) ∧ (∀ i, W.cell? ⟨w.heap.size + 1, i, none⟩ = (#[.int .i64 a0, .int .i64 a1, .int .i64 a2, .int .i64 a3, .int .i64 a4, .int .i64 a5, .int .i64 a6, .int .i64 a7, .int .i64 a8, .int .i64 a9, .int .i64 a10, .int .i64 a11, .string t, .slice bo l.length cb] : Array Value)[i]?) ∧ w.heap.size + 1 < W.heap.size) := ⟨f1, f2, hsW⟩
  clear ha hb hbW hW f1 f2 hsW
  go_enter Try.func21, Try.ntmps21
  go_wp2_with fail
  rw [← HW.out]
  clear ks
  go_loopg [5] l.length (fun gg ii wr => ∃ j : Nat, j ≤ l.length ∧ gg = l.length - j ∧ ii = .int .i64 j ∧ Below W.heap.size W wr)
  case atStart => exact ⟨0, by omega, rfl, rfl, Below.refl _ _⟩
  case round =>
    obtain ⟨j, hj, hgj, rfl, hbr⟩ := hrel
    have HGJ : Hid (gk = l.length - j) := hgj
    clear hgj
    have f1 : ∀ i, wr.cell? ⟨w.heap.size, i, none⟩ = (#[.int .i64 a0, .int .i64 a1, .int .i64 a2, .int .i64 a3, .int .i64 a4, .int .i64 a5, .int .i64 a6, .int .i64 a7, .int .i64 a8, .int .i64 a9, .int .i64 a10, .int .i64 a11, .string t, .slice ao l.length ca] : Array Value)[i]? := fun i => (hbr.cell (p := ⟨w.heap.size, i, none⟩) (Nat.lt_of_succ_lt HF.out.2.2)).trans (HF.out.1 i)
    have f2 : ∀ i, wr.cell? ⟨w.heap.size + 1, i, none⟩ = (#[.int .i64 a0, .int .i64 a1, .int .i64 a2, .int .i64 a3, .int .i64 a4, .int .i64 a5, .int .i64 a6, .int .i64 a7, .int .i64 a8, .int .i64 a9, .int .i64 a10, .int .i64 a11, .string t, .slice bo l.length cb] : Array Value)[i]? := fun i => (hbr.cell (p := ⟨w.heap.size + 1, i, none⟩) HF.out.2.2).trans (HF.out.2.1 i)
    by_cases hlt : j < l.length
    · have hji : (j : Int) < (l.length : Int) := by omega
      obtain ⟨n1, rfl, _, t1⟩ := (hN.out.1.below hbr).row (by omega)
      obtain ⟨n2, rfl, _, t2⟩ := (hN.out.2.1.below hbr).row (by omega)
      have c1 := t1.cell j hlt
      have c2 := t2.cell j hlt
      obtain ⟨sx, hsx⟩ : ∃ sx : ByteArray, encStr l[j] = .string sx := ⟨_, rfl⟩
      rw [hsx] at c1 c2
      have HB : Hid (Below W.heap.size W wr) := hbr
      clear hsx t1 t2 hbr
      go_wp2_with fail
      go_quiet (fail)
      go_wp2
      go_roundg (l.length - (j + 1))
      case measure => have := HGJ.out; omega
      case rel => exact ⟨j + 1, by omega, rfl, by go_num, ⟨HB.out.os, HB.out.tape, HB.out.output, HB.out.size, HB.out.block⟩⟩
    · obtain rfl : j = l.length := by omega
      have HB : Hid (Below W.heap.size W wr) := hbr
      clear hbr
      go_wp2
      go_ret
      exact ⟨rfl, hN.out.2.2.trans (HB.out.mono hN.out.2.2.size)⟩

/-- cardamomref4.SameBox of what is the same. -/
theorem same21 (x : Ev.Bx) (ao bo : Option Addr) (ca cb A B : Nat) (w : World) (hl : x.nots.length ≤ 1000) (ha : Nt A w ao ca x.nots) (hb : Nt B w bo cb x.nots) :
    Calls Try.prog 21 #[Bval x ao ca, Bval x bo cb] w fun e w' => e = .returned (.bool true) ∧ Below w.heap.size w w' :=
  same_any _ _ _ _ _ _ _ _ _ _ _ _ x.tag x.nots ao bo ca cb A B w hl ha hb

end Go.Proofs.Ytflpdekifkcfkaa
