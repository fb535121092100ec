/- norm.Meet's contract. -/
import Derived.Test.YtflpdekifkcfkabMeet
namespace Go.Proofs.Ytflpdekifkcfkab
open Go.RowKit
set_option linter.unusedVariables false

/-- All that must be for two boxes to have something in common. -/
def goodM (x y : Ev.Bx) : Bool := (Ev.meetS (x.s 0) (y.s 0)).isSome && ((Ev.meetS (x.s 1) (y.s 1)).isSome && ((Ev.meetS (x.s 2) (y.s 2)).isSome && ((Ev.meetS (x.s 3) (y.s 3)).isSome &&
  ((Ev.begins (Ev.longer x.tag y.tag) x.tag && Ev.begins (Ev.longer x.tag y.tag) y.tag) && !Ev.anyOf (Ev.longer x.tag y.tag) (Ev.rise (x.nots ++ y.nots))))))

theorem meet_good (x y : Ev.Bx) : Ev.meet x y = if goodM x y = true then some ⟨Ev.four ((Ev.meetS (x.s 0) (y.s 0)).getD Ev.nul) ((Ev.meetS (x.s 1) (y.s 1)).getD Ev.nul) ((Ev.meetS (x.s 2) (y.s 2)).getD Ev.nul) ((Ev.meetS (x.s 3) (y.s 3)).getD Ev.nul), Ev.longer x.tag y.tag, Ev.rise (x.nots ++ y.nots)⟩ else none := by
  unfold Ev.meet goodM
  cases Ev.meetS (x.s 0) (y.s 0) with
  | none => simp
  | some a =>
  cases Ev.meetS (x.s 1) (y.s 1) with
  | none => simp
  | some b =>
  cases Ev.meetS (x.s 2) (y.s 2) with
  | none => simp
  | some c =>
  cases Ev.meetS (x.s 3) (y.s 3) with
  | none => simp
  | some d =>
    unfold Ev.fits
    simp only [Option.isSome_some, Bool.true_and, Option.getD_some, Bool.and_assoc]

/-- What Meet tells: a box, and whether there is one. -/
def MPost (w : World) (r : Option Ev.Bx) (e : Ending) (w' : World) : Prop :=
  Below w.heap.size w w' ∧ ∃ o cap, e = .returned (.tuple #[Bval (r.getD Ev.zero) o cap, .bool r.isSome]) ∧ Nt w.heap.size w' o cap (r.getD Ev.zero).nots

/-- norm.Meet. -/
theorem meet19 (x y : Ev.Bx) (ao bo : Option Addr) (ca cb n m A B : Nat) (w : World) (hx : x.ok n) (hy : y.ok m) (hn : n ≤ 500) (hm : m ≤ 500) (ha : Nt A w ao ca x.nots) (hb : Nt B w bo cb y.nots) :
    Calls Try.prog 66 #[Bval x ao ca, Bval y bo cb] w (MPost w (Ev.meet x y)) := by
  have lx := hx.2.2.1
  have ly := hy.2.2.1
  have lr := Ev.length_rise (x.nots ++ y.nots)
  have sl := Ev.size_longer x.tag y.tag hx.2.1 hy.2.1
  have sr : ∀ a ∈ Ev.rise (x.nots ++ y.nots), a.length ≤ 1000 := rise_small (fun a h => by
    rw [List.mem_append] at h
    rcases h with h | h
    · exact hx.2.2.2 a h
    · exact hy.2.2.2 a h)
  rw [List.length_append] at lr
  have c := meet_any x.s y.s (fun k => (Ev.meetS (x.s k) (y.s k)).getD Ev.nul) (fun k => (Ev.meetS (x.s k) (y.s k)).isSome) (Ev.begins (Ev.longer x.tag y.tag) x.tag && Ev.begins (Ev.longer x.tag y.tag) y.tag) (Ev.anyOf (Ev.longer x.tag y.tag) (Ev.rise (x.nots ++ y.nots))) (goodM x y) (show Hid (goodM x y = _) from rfl)
    x.tag y.tag (Ev.longer x.tag y.tag) ao bo x.nots.length ca y.nots.length cb (Ev.rise (x.nots ++ y.nots)) w
    (fun k hk w' => sides35 (x.s k) (y.s k) w' (hx.1 k hk) (hy.1 k hk)) (fun w' => tags36 x.tag y.tag w' hx.2.1 hy.2.1)
    (fun w' hb' => nots37 ao bo ca cb x.nots y.nots w' A B (ha.below hb') (hb.below hb') (by omega) (by omega) hx.2.2.2 hy.2.2.2)
    (fun w' o cap ht => one32 (Ev.longer x.tag y.tag) o cap (Ev.rise (x.nots ++ y.nots)) w' sl (by omega) sr ht) (fun w' => clone38 _ w' sl)
  refine c.mono ?_
  rintro e w' ⟨hb', h⟩
  rw [meet_good]
  rcases h with ⟨hg, rfl⟩ | ⟨hg, o, cap, rfl, hnt⟩
  · rw [if_neg (by rw [hg]; simp)]
    exact ⟨hb', none, 0, rfl, Nt.empty _ _⟩
  · rw [if_pos hg]
    exact ⟨hb', o, cap, rfl, hnt⟩

end Go.Proofs.Ytflpdekifkcfkab
