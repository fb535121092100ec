/- cardamomref4.one and Words: the document's words. -/
/- cardamomref4.Words: the document's words of a text. -/
import Derived.Test.YtdeojcodbojmoaaGreatDoorProg
import Derived.Test.YtdeojcodbojmoaaGreatDoorJaa
import Derived.Test.YtdeojcodbojmoaaGreatDoorJab
import Derived.WalkKit
import Derived.WalkSpells
import Derived.WalkLawsBesides
import Derived.Handy
import Derived.BigQuiet
import Derived.Deep.QuietTactic
namespace Go.Proofs.YtdeojcodbojmoaaGreatDoor
namespace Rf
open Go.RowKit
set_option maxRecDepth 100000

theorem byteAt (s : ByteArray) (k : Nat) (h : k < s.size) : s.data.toList[k]'(by simpa using h) = s[k] := by
  simp [ByteArray.getElem_eq_getElem_data]

theorem ret_int {k : IntKind} {a b : Int} (h : a = b) : Ending.returned (.int k a) = .returned (.int k b) := by rw [h]

/-- The first k bytes of s lie from lo to hi. -/
def Upto (lo hi : Int) (s : ByteArray) (k : Nat) : Prop := ∀ j (h : j < s.data.toList.length), j < k → lo ≤ (s.data.toList[j].toNat : Int) ∧ (s.data.toList[j].toNat : Int) ≤ hi

theorem Upto.zero (lo hi : Int) (s : ByteArray) : Upto lo hi s 0 := fun j _ hj => by omega

theorem Upto.succ {lo hi : Int} {s : ByteArray} {k : Nat} (h : Upto lo hi s k) (hk : k < s.size) (h1 : lo ≤ (s[k].toNat : Int)) (h2 : (s[k].toNat : Int) ≤ hi) : Upto lo hi s (k + 1) := by
  intro j hj hjk
  by_cases e : j < k
  · exact h j hj e
  · have : j = k := by omega
    subst this
    rw [byteAt s j hk]
    exact ⟨h1, h2⟩

theorem Upto.stop {lo hi : Int} {s : ByteArray} {k : Nat} (h : Upto lo hi s k) (hk : k ≤ s.size) (hs : ∀ h : k < s.size, ¬ (lo ≤ (s[k].toNat : Int) ∧ (s[k].toNat : Int) ≤ hi)) : Wd.cnt lo hi s.data.toList = k :=
  Wd.cnt_eq lo hi _ k (by simpa using hk) h (fun h' => by rw [byteAt s k (by simpa using h')]; exact hs (by simpa using h'))

set_option maxHeartbeats 400000 in
theorem letter_any (c : Int) (w : World) :
    Calls Tryz.prog 74 #[.int .u8 c] w fun e w' => e = .returned (.bool (Wd.within 97 122 c)) ∧ w' = w := by
  by_cases h1 : 97 ≤ c
  · by_cases h2 : c ≤ 122
    · have hb := Wd.within_yes h1 h2
      go_enter Tryz.func74, Tryz.ntmps74
      go_wp2
      go_ret
      exact ⟨by rw [hb]; rfl, rfl⟩
    · have hb : Wd.within 97 122 c = false := Wd.within_no (by omega)
      go_enter Tryz.func74, Tryz.ntmps74
      go_wp2
      go_ret
      exact ⟨rfl, rfl⟩
  · have hb : Wd.within 97 122 c = false := Wd.within_no (by omega)
    go_enter Tryz.func74, Tryz.ntmps74
    go_wp2
    go_ret
    exact ⟨rfl, rfl⟩

set_option maxHeartbeats 400000 in
theorem digit_any (c : Int) (w : World) :
    Calls Tryz.prog 75 #[.int .u8 c] w fun e w' => e = .returned (.bool (Wd.within 48 57 c)) ∧ w' = w := by
  by_cases h1 : 48 ≤ c
  · by_cases h2 : c ≤ 57
    · have hb := Wd.within_yes h1 h2
      go_enter Tryz.func75, Tryz.ntmps75
      go_wp2
      go_ret
      exact ⟨by rw [hb]; rfl, rfl⟩
    · have hb : Wd.within 48 57 c = false := Wd.within_no (by omega)
      go_enter Tryz.func75, Tryz.ntmps75
      go_wp2
      go_ret
      exact ⟨rfl, rfl⟩
  · have hb : Wd.within 48 57 c = false := Wd.within_no (by omega)
    go_enter Tryz.func75, Tryz.ntmps75
    go_wp2
    go_ret
    exact ⟨rfl, rfl⟩

/-- A word's cells, without its place. -/
def oneV (o : Wd.One) : Value := .agg #[.int .i64 o.kind, .string ⟨o.text.toArray⟩, .int .i64 o.num, .int .i64 0]

theorem extract_take (s : ByteArray) (n : Nat) : s.extract 0 n = ⟨(s.data.toList.take n).toArray⟩ := by
  apply ByteArray.ext; apply Array.ext'; simp

theorem cons_of (s : ByteArray) (hp : 0 < s.size) : ∃ r, s.data.toList = s[0] :: r := by
  cases e : s.data.toList with
  | nil => have : s.data.toList.length = s.size := by simp
           rw [e] at this; simp at this; omega
  | cons c r => exact ⟨r, by rw [← byteAt s 0 hp]; simp [e]⟩

theorem fin_nothing {o : Wd.One} (h : o = Wd.nothing) : Ending.returned (.tuple #[oneV Wd.nothing, .int .i64 0]) = .returned (.tuple #[oneV o, .int .i64 o.size]) := by subst h; rfl
theorem fin_name {o : Wd.One} (s : ByteArray) (k : Nat) (h : o = ⟨1, s.data.toList.take k, 0, k⟩) :
    Ending.returned (.tuple #[.agg #[.int .i64 1, .string (s.extract 0 k), .int .i64 0, .int .i64 0], .int .i64 k]) = .returned (.tuple #[oneV o, .int .i64 o.size]) := by
  subst h; rw [extract_take]; rfl
theorem fin_number {o : Wd.One} (n : Int) (k : Nat) (h : o = ⟨2, [], n, k⟩) :
    Ending.returned (.tuple #[.agg #[.int .i64 2, .string ⟨#[]⟩, .int .i64 n, .int .i64 0], .int .i64 k]) = .returned (.tuple #[oneV o, .int .i64 o.size]) := by
  subst h; rfl
theorem fin_mark {o : Wd.One} (s : ByteArray) (c : UInt8) (r : List UInt8) (hl : s.data.toList = c :: r) (h : o = ⟨3, [c], 0, 1⟩) :
    Ending.returned (.tuple #[.agg #[.int .i64 3, .string (s.extract 0 1), .int .i64 0, .int .i64 0], .int .i64 1]) = .returned (.tuple #[oneV o, .int .i64 o.size]) := by
  subst h; rw [extract_take, hl]; rfl

set_option maxHeartbeats 1000000 in
/-- A name. -/
theorem one_letter (s : ByteArray) (w : World) (hs : s.size ≤ maxLen) (hp : 0 < s.size) (h : 97 ≤ (s[0].toNat : Int) ∧ (s[0].toNat : Int) ≤ 122) (o : Wd.One)
    (hmany : ∀ k, Wd.cnt 97 122 s.data.toList = k → 6 < k → o = Wd.nothing) (hfew : ∀ k, Wd.cnt 97 122 s.data.toList = k → ¬ 6 < k → o = ⟨1, s.data.toList.take k, 0, k⟩) :
    Calls Tryz.prog 62 #[.string s] w fun e w' => e = .returned (.tuple #[oneV o, .int .i64 o.size]) ∧ Below w.heap.size w w' := by
  unfold maxLen at hs
  have hw0 : Wd.within 97 122 (s[0].toNat : Int) = true := Wd.within_yes h.1 h.2
  have HM : Hid (∀ k, Wd.cnt 97 122 s.data.toList = k → 6 < k → o = Wd.nothing) := hmany
  have HF : Hid (∀ k, Wd.cnt 97 122 s.data.toList = k → ¬ 6 < k → o = ⟨1, s.data.toList.take k, 0, k⟩) := hfew
  clear hmany hfew
  go_enter Tryz.func62, Tryz.ntmps62
  go_wp2_with fail
  refine (letter_any _ _).mono ?_
  rintro e w' ⟨rfl, rfl⟩
  rw [hw0]
  clear hw0 h
  go_wp2_with fail
  go_loop [4] (fun i => ∃ k : Nat, k ≤ s.size ∧ i = .int .i64 k ∧ Upto 97 122 s k) (fun i => s.size - (intOf i).toNat)
  case atStart => exact ⟨0, Nat.zero_le _, rfl, Upto.zero _ _ _⟩
  case round =>
    obtain ⟨k, hk, rfl, hall⟩ := hrel
    by_cases hlt : k < s.size
    · by_cases hw : 97 ≤ (s[k].toNat : Int) ∧ (s[k].toNat : Int) ≤ 122
      · have hb := Wd.within_yes hw.1 hw.2
        go_wp2_with (go_at_call 74; refine (letter_any _ _).mono ?_; rintro e w' ⟨rfl, rfl⟩; rw [hb])
        go_round
        case rel => exact ⟨k + 1, by omega, by go_num, hall.succ hlt hw.1 hw.2⟩
        case measure => simp [intOf]; omega
      · have hb : Wd.within 97 122 (s[k].toNat : Int) = false := Wd.within_no hw
        have HE : Hid (Wd.cnt 97 122 s.data.toList = k) := hall.stop hk (fun _ => hw)
        clear hw
        by_cases h6 : 6 < k
        · go_wp2_with (go_at_call 74; refine (letter_any _ _).mono ?_; rintro e w' ⟨rfl, rfl⟩; rw [hb])
          refine bodyPost_ret (v := .tuple #[oneV Wd.nothing, .int .i64 0]) (by simp [results, Tryz.results62, go_sem, oneV, Wd.nothing]) rfl ⟨fin_nothing (HM.out k HE.out h6), ?_⟩
          exact (Below.refl _ _).alloc (Nat.le_refl _) _
        · go_wp2_with (go_at_call 74; refine (letter_any _ _).mono ?_; rintro e w' ⟨rfl, rfl⟩; rw [hb])
          refine bodyPost_ret (v := .tuple #[.agg #[.int .i64 1, .string (s.extract 0 k), .int .i64 0, .int .i64 0], .int .i64 k]) (by simp [results, Tryz.results62, go_sem]) rfl ⟨fin_name s k (HF.out k HE.out h6), ?_⟩
          exact (Below.refl _ _).alloc (Nat.le_refl _) _
    · have HE : Hid (Wd.cnt 97 122 s.data.toList = k) := hall.stop hk (fun _ => by omega)
      by_cases h6 : 6 < k
      · go_wp2
        refine bodyPost_ret (v := .tuple #[oneV Wd.nothing, .int .i64 0]) (by simp [results, Tryz.results62, go_sem, oneV, Wd.nothing]) rfl ⟨fin_nothing (HM.out k HE.out h6), ?_⟩
        exact (Below.refl _ _).alloc (Nat.le_refl _) _
      · go_wp2
        refine bodyPost_ret (v := .tuple #[.agg #[.int .i64 1, .string (s.extract 0 k), .int .i64 0, .int .i64 0], .int .i64 k]) (by simp [results, Tryz.results62, go_sem]) rfl ⟨fin_name s k (HF.out k HE.out h6), ?_⟩
        exact (Below.refl _ _).alloc (Nat.le_refl _) _

theorem valueTo_bd (s : ByteArray) (k : Nat) (hk : k ≤ s.size) (h : Upto 48 57 s k) : 0 ≤ Wd.valueTo s.data.toList k ∧ Wd.valueTo s.data.toList k ≤ 99 ∧ (k ≤ 1 → Wd.valueTo s.data.toList k ≤ 9) := by
  induction k with
  | zero => simp [Wd.valueTo]
  | succ k ih =>
    have hlen : k < s.data.toList.length := by simp; omega
    have hd := h k hlen (by omega)
    have ih := ih (by omega) (fun j hj hjk => h j hj (by omega))
    have e : s.data.toList.getD k 0 = s.data.toList[k] := by rw [List.getD_eq_getElem?_getD, List.getElem?_eq_getElem hlen]; rfl
    unfold Wd.valueTo
    rw [e]
    unfold Wd.digit
    split
    · have hk1 : k = 0 ∨ k = 1 := by omega
      rcases hk1 with rfl | rfl
      · simp only [Wd.valueTo] at *; omega
      · omega
    · omega

theorem valueTo_step (s : ByteArray) (k : Nat) (hk : k < s.size) (h2 : k < 2) : Wd.valueTo s.data.toList (k + 1) = Wd.valueTo s.data.toList k * 10 + ((s[k].toNat : Int) - 48) := by
  have hlen : k < s.data.toList.length := by simp; omega
  have e : s.data.toList.getD k 0 = s[k] := by rw [← byteAt s k hk, List.getD_eq_getElem?_getD, List.getElem?_eq_getElem hlen]; rfl
  show (if k < 2 then _ else _) = _
  rw [if_pos h2, e]
  rfl

theorem valueTo_stay (l : List UInt8) (k : Nat) (h2 : ¬ k < 2) : Wd.valueTo l (k + 1) = Wd.valueTo l k := by
  show (if k < 2 then _ else _) = _
  rw [if_neg h2]

theorem int_eq {k : IntKind} {a b : Int} (h : a = b) : Value.int k a = Value.int k b := by rw [h]

set_option maxHeartbeats 1000000 in
/-- A number. -/
theorem one_digit (s : ByteArray) (w : World) (hs : s.size ≤ maxLen) (hp : 0 < s.size) (h : 48 ≤ (s[0].toNat : Int) ∧ (s[0].toNat : Int) ≤ 57) (o : Wd.One)
    (hmany : ∀ k, Wd.cnt 48 57 s.data.toList = k → 2 < k → o = Wd.nothing) (hfew : ∀ k, Wd.cnt 48 57 s.data.toList = k → ¬ 2 < k → o = ⟨2, [], Wd.valueTo s.data.toList k, k⟩) :
    Calls Tryz.prog 62 #[.string s] w fun e w' => e = .returned (.tuple #[oneV o, .int .i64 o.size]) ∧ Below w.heap.size w w' := by
  unfold maxLen at hs
  have hw0 : Wd.within 97 122 (s[0].toNat : Int) = false := Wd.within_no (by omega)
  have hw1 : Wd.within 48 57 (s[0].toNat : Int) = true := Wd.within_yes h.1 h.2
  have HM : Hid (∀ k, Wd.cnt 48 57 s.data.toList = k → 2 < k → o = Wd.nothing) := hmany
  have HF : Hid (∀ k, Wd.cnt 48 57 s.data.toList = k → ¬ 2 < k → o = ⟨2, [], Wd.valueTo s.data.toList k, k⟩) := hfew
  clear hmany hfew
  go_enter Tryz.func62, Tryz.ntmps62
  go_wp2_with fail
  refine (letter_any _ _).mono ?_
  rintro e w' ⟨rfl, rfl⟩
  rw [hw0]
  go_wp2_with fail
  refine (digit_any _ _).mono ?_
  rintro e w' ⟨rfl, rfl⟩
  rw [hw1]
  clear hw0 hw1 h
  go_wp2_with fail
  go_loop [4, 5] (fun i v => ∃ k : Nat, k ≤ s.size ∧ i = .int .i64 k ∧ v = .int .i64 (Wd.valueTo s.data.toList k) ∧ Upto 48 57 s k) (fun i _ => s.size - (intOf i).toNat)
  case atStart => exact ⟨0, Nat.zero_le _, rfl, rfl, Upto.zero _ _ _⟩
  case round =>
    obtain ⟨k, hk, rfl, rfl, hall⟩ := hrel
    have hbd := valueTo_bd s k hk hall
    by_cases hlt : k < s.size
    · by_cases hw : 48 ≤ (s[k].toNat : Int) ∧ (s[k].toNat : Int) ≤ 57
      · have hb := Wd.within_yes hw.1 hw.2
        obtain ⟨hw1, hw2⟩ := hw
        by_cases h2 : k < 2
        · have HV : Hid (Wd.valueTo s.data.toList (k + 1) = Wd.valueTo s.data.toList k * 10 + ((s[k].toNat : Int) - 48)) := valueTo_step s k hlt h2
          obtain ⟨hv0, hv1, _⟩ := hbd
          go_wp2_with (go_at_call 75; refine (digit_any _ _).mono ?_; rintro e w' ⟨rfl, rfl⟩; rw [hb])
          go_round
          case rel => exact ⟨k + 1, by omega, by go_num, int_eq (by rw [HV.out]), hall.succ hlt hw1 hw2⟩
          case measure => simp [intOf]; omega
        · have HV : Hid (Wd.valueTo s.data.toList (k + 1) = Wd.valueTo s.data.toList k) := valueTo_stay _ k h2
          clear hbd
          go_wp2_with (go_at_call 75; refine (digit_any _ _).mono ?_; rintro e w' ⟨rfl, rfl⟩; rw [hb])
          go_round
          case rel => exact ⟨k + 1, by omega, by go_num, int_eq (by rw [HV.out]), hall.succ hlt hw1 hw2⟩
          case measure => simp [intOf]; omega
      · have hb : Wd.within 48 57 (s[k].toNat : Int) = false := Wd.within_no hw
        have HE : Hid (Wd.cnt 48 57 s.data.toList = k) := hall.stop hk (fun _ => hw)
        clear hw hbd
        by_cases h6 : 2 < k
        · go_wp2_with (go_at_call 75; refine (digit_any _ _).mono ?_; rintro e w' ⟨rfl, rfl⟩; rw [hb])
          refine bodyPost_ret (v := .tuple #[oneV Wd.nothing, .int .i64 0]) (by simp [results, Tryz.results62, go_sem, oneV, Wd.nothing]) rfl ⟨fin_nothing (HM.out k HE.out h6), ?_⟩
          exact (Below.refl _ _).alloc (Nat.le_refl _) _
        · go_wp2_with (go_at_call 75; refine (digit_any _ _).mono ?_; rintro e w' ⟨rfl, rfl⟩; rw [hb])
          refine bodyPost_ret (v := .tuple #[.agg #[.int .i64 2, .string ⟨#[]⟩, .int .i64 (Wd.valueTo s.data.toList k), .int .i64 0], .int .i64 k]) (by simp [results, Tryz.results62, go_sem]) rfl ⟨fin_number _ k (HF.out k HE.out h6), ?_⟩
          exact (Below.refl _ _).alloc (Nat.le_refl _) _
    · have HE : Hid (Wd.cnt 48 57 s.data.toList = k) := hall.stop hk (fun _ => by omega)
      clear hbd
      by_cases h6 : 2 < k
      · go_wp2
        refine bodyPost_ret (v := .tuple #[oneV Wd.nothing, .int .i64 0]) (by simp [results, Tryz.results62, go_sem, oneV, Wd.nothing]) rfl ⟨fin_nothing (HM.out k HE.out h6), ?_⟩
        exact (Below.refl _ _).alloc (Nat.le_refl _) _
      · go_wp2
        refine bodyPost_ret (v := .tuple #[.agg #[.int .i64 2, .string ⟨#[]⟩, .int .i64 (Wd.valueTo s.data.toList k), .int .i64 0], .int .i64 k]) (by simp [results, Tryz.results62, go_sem]) rfl ⟨fin_number _ k (HF.out k HE.out h6), ?_⟩
        exact (Below.refl _ _).alloc (Nat.le_refl _) _

/-- The marks as one text. -/
def marksB : ByteArray := ⟨#[40, 41, 33, 38, 124, 42, 61, 58, 45, 64, 94]⟩

set_option maxHeartbeats 1000000 in
/-- A mark, or nothing. -/
theorem one_other (s : ByteArray) (w : World) (hs : s.size ≤ maxLen) (hp : 0 < s.size) (h1 : ¬ (97 ≤ (s[0].toNat : Int) ∧ (s[0].toNat : Int) ≤ 122)) (h2 : ¬ (48 ≤ (s[0].toNat : Int) ∧ (s[0].toNat : Int) ≤ 57)) (o : Wd.One)
    (hyes : s[0] ∈ Wd.marks → o = ⟨3, [s[0]], 0, 1⟩) (hno : ¬ s[0] ∈ Wd.marks → o = Wd.nothing) :
    Calls Tryz.prog 62 #[.string s] w fun e w' => e = .returned (.tuple #[oneV o, .int .i64 o.size]) ∧ Below w.heap.size w w' := by
  unfold maxLen at hs
  have hw0 : Wd.within 97 122 (s[0].toNat : Int) = false := Wd.within_no h1
  have hw1 : Wd.within 48 57 (s[0].toNat : Int) = false := Wd.within_no h2
  have HY : Hid (s[0] ∈ Wd.marks → o = ⟨3, [s[0]], 0, 1⟩) := hyes
  have HN : Hid (¬ s[0] ∈ Wd.marks → o = Wd.nothing) := hno
  clear hyes hno
  go_enter Tryz.func62, Tryz.ntmps62
  go_wp2_with fail
  refine (letter_any _ _).mono ?_
  rintro e w' ⟨rfl, rfl⟩
  rw [hw0]
  go_wp2_with fail
  refine (digit_any _ _).mono ?_
  rintro e w' ⟨rfl, rfl⟩
  rw [hw1]
  clear hw0 hw1 h1 h2
  go_wp2_with fail
  have hms : marksB.size = 11 := rfl
  rw [show (⟨#[40, 41, 33, 38, 124, 42, 61, 58, 45, 64, 94]⟩ : ByteArray) = marksB from rfl]
  obtain ⟨W, hW⟩ : ∃ W, W = w.alloc (.cells #[.int .i64 0, .string ⟨#[]⟩, .int .i64 0, .int .i64 0] 114) := ⟨_, rfl⟩
  rw [← hW]
  have HW : Hid (W = w.alloc (.cells #[.int .i64 0, .string ⟨#[]⟩, .int .i64 0, .int .i64 0] 114)) := hW
  clear hW
  go_loopw [7] (fun i wr => ∃ k : Nat, k ≤ 11 ∧ i = .int .i64 k ∧ (∀ j, j < k → Wd.marks.getD j 0 ≠ s[0]) ∧ Below W.heap.size W wr) (fun i _ => 11 - (intOf i).toNat)
  case atStart => exact ⟨0, by omega, rfl, fun j hj => by omega, Below.refl _ _⟩
  case round =>
    obtain ⟨k, hk, rfl, hall, hbel⟩ := hrel
    have hbw : Below w.heap.size w wr := by
      have h := hbel
      rw [HW.out] at h
      exact ((Below.refl _ w).alloc (Nat.le_refl _) _).trans (h.mono (by simp))
    have q0 : wr.cell? ⟨w.heap.size, 0, none⟩ = some (.int .i64 0) := by have h := hbel; rw [HW.out] at h; rw [h.cell (p := ⟨w.heap.size, 0, none⟩) (by simp)]; simp
    have q1 : wr.cell? ⟨w.heap.size, 1, none⟩ = some (.string ⟨#[]⟩) := by have h := hbel; rw [HW.out] at h; rw [h.cell (p := ⟨w.heap.size, 1, none⟩) (by simp)]; simp
    have q2 : wr.cell? ⟨w.heap.size, 2, none⟩ = some (.int .i64 0) := by have h := hbel; rw [HW.out] at h; rw [h.cell (p := ⟨w.heap.size, 2, none⟩) (by simp)]; simp
    have q3 : wr.cell? ⟨w.heap.size, 3, none⟩ = some (.int .i64 0) := by have h := hbel; rw [HW.out] at h; rw [h.cell (p := ⟨w.heap.size, 3, none⟩) (by simp)]; simp
    have f0 : ∀ j, wr.frozen? ⟨w.heap.size, j, none⟩ = false := fun j => by have h := hbel; rw [HW.out] at h; rw [h.frozen (p := ⟨w.heap.size, j, none⟩) (by simp)]; simp
    by_cases hlt : k < 11
    · have hlt' : k < marksB.size := by omega
      have hgd : Wd.marks.getD k 0 = marksB[k] := by rw [List.getD_eq_getElem?_getD, List.getElem?_eq_getElem (by simpa [Wd.marks] using hlt)]; rfl
      by_cases he : marksB[k] = s[0]
      · have hb : ((marksB[k].toNat : Int) == (s[0].toNat : Int)) = true := by rw [he]; exact beq_self_eq_true _
        have ho : o = ⟨3, [s[0]], 0, 1⟩ := HY.out (by rw [← he]; exact List.getElem_mem (l := Wd.marks) (by simpa [Wd.marks] using hlt))
        have HO : Hid (o = ⟨3, [s[0]], 0, 1⟩) := ho
        clear ho he hgd hbel hall
        go_wp2
        go_quiet (fail)
        go_wp2
        refine bodyPost_ret (v := .tuple #[.agg #[.int .i64 3, .string (s.extract 0 1), .int .i64 0, .int .i64 0], .int .i64 1]) (by simp [results, Tryz.results62, go_sem, q0, q1, q2, q3]) rfl ⟨?_, ?_⟩
        · obtain ⟨r, hl⟩ := cons_of s hp
          exact fin_mark s _ r hl HO.out
        · exact ((((below_drewN hbw _).setCell (by simp) _).setCell (by simp) _).setCell (by simp) _).setCell (by simp) _
      · have hb : ((marksB[k].toNat : Int) == (s[0].toNat : Int)) = false := beq_eq_false_iff_ne.2 (fun x => he (UInt8.toNat_inj.1 (Int.ofNat_inj.1 x)))
        have HG : Hid (Wd.marks.getD k 0 ≠ s[0]) := by rw [hgd]; exact he
        clear he hgd
        go_wp2
        go_quiet (fail)
        go_wp2
        go_roundw
        case rel => exact ⟨k + 1, by omega, by go_num, fun j hj => by
          by_cases e : j < k
          · exact hall j e
          · have : j = k := by omega
            subst this
            exact HG.out, below_drewN hbel _⟩
        case measure => simp [intOf]; omega
    · have HO : Hid (o = Wd.nothing) := HN.out (fun hm => by
        obtain ⟨j, hj, he⟩ := List.mem_iff_getElem.1 hm
        have hj' : j < 11 := by simpa [Wd.marks] using hj
        refine hall j (by omega) ?_
        rw [List.getD_eq_getElem?_getD, List.getElem?_eq_getElem hj]
        exact he)
      clear hall hbel
      go_wp2
      refine bodyPost_ret (v := .tuple #[oneV Wd.nothing, .int .i64 0]) (by simp [results, Tryz.results62, go_sem, oneV, Wd.nothing, q0, q1, q2, q3]) rfl ⟨fin_nothing HO.out, ?_⟩
      exact (((hbw.setCell (by simp) _).setCell (by simp) _).setCell (by simp) _).setCell (by simp) _

/-- cardamomref4.one tells what Wd.first tells. -/
theorem one_any (s : ByteArray) (w : World) (hs : s.size ≤ maxLen) (hp : 0 < s.size) :
    Calls Tryz.prog 62 #[.string s] w fun e w' => e = .returned (.tuple #[oneV (Wd.first s.data.toList), .int .i64 (Wd.first s.data.toList).size]) ∧ Below w.heap.size w w' := by
  obtain ⟨r, hl⟩ := cons_of s hp
  by_cases h1 : 97 ≤ (s[0].toNat : Int) ∧ (s[0].toNat : Int) ≤ 122
  · exact one_letter s w hs hp h1 _ (fun k he h6 => by rw [hl] at he ⊢; exact Wd.letter_many he h6) (fun k he h6 => by rw [hl] at he ⊢; exact Wd.letter_few h1.1 h1.2 he h6)
  · by_cases h2 : 48 ≤ (s[0].toNat : Int) ∧ (s[0].toNat : Int) ≤ 57
    · refine one_digit s w hs hp h2 _ (fun k he h6 => by rw [hl] at he ⊢; exact Wd.digit_many he h6) (fun k he h6 => ?_)
      have hk : k ≤ s.data.toList.length := by rw [← he]; exact Wd.cnt_le _ _ _
      have h0 : 0 < k := by
        rw [hl] at he
        have : Wd.cnt 48 57 (s[0] :: r) ≠ 0 := fun e => (Wd.cnt_zero 48 57 _ r).1 e h2
        omega
      rw [Wd.valueTo_value _ k h0 (by omega) hk]
      rw [hl] at he ⊢
      exact Wd.digit_few h2.1 h2.2 he h6
    · exact one_other s w hs hp h1 h2 _ (fun hm => by rw [hl]; exact Wd.other_mark h1 h2 hm) (fun hm => by rw [hl]; exact Wd.other_none h1 h2 hm)

end Rf
end Go.Proofs.YtdeojcodbojmoaaGreatDoor
namespace Go.Proofs.YtdeojcodbojmoaaGreatDoor
namespace Rf
open Go.RowKit
set_option maxRecDepth 100000

theorem Tryz.info114 : (Tryz.prog.info? 114).map (fun i => (i.zero, i.size, i.bytes)) = some (some (.agg #[.int .i64 0, .string ⟨#[]⟩, .int .i64 0, .int .i64 0]), 4, 40) := by kernel_rfl

set_option maxRecDepth 100000 in
set_option maxHeartbeats 400000 in
theorem words_great (s : ByteArray) (w : World) (h : 80 < s.size) (hs : s.size ≤ maxLen) :
    Calls Tryz.prog 42 #[.string s] w fun e w' => e = .returned (.tuple #[.slice none 0 0, .int .i64 0, .bool false]) ∧ w' = w := by
  unfold maxLen at hs
  go_enter Tryz.func42, Tryz.ntmps42
  go_wp2
  go_ret3
  exact ⟨rfl, rfl⟩

set_option maxRecDepth 100000 in
set_option maxHeartbeats 1000000 in
theorem words_small (s : ByteArray) (w : World) (h : s.size ≤ 80) :
    Calls Tryz.prog 42 #[.string s] w fun e w' => ∃ v ws n ok, Wd.rest s.data.toList 0 [] = (ws, n, ok) ∧ e = .returned (.tuple #[v, .int .i64 n, .bool ok]) ∧ w'.ownsRow w.heap.size 114 4 v ws.length (cellsOf ws) ∧ Below w.heap.size w w' := by
  go_enter Tryz.func42, Tryz.ntmps42
  go_wp2
  go_loopw [5, 6] (fun v i wr => ∃ (p : Nat) (acc : List Wd.Word), p ≤ s.size ∧ acc.length ≤ p ∧ acc.length ≤ 60 ∧ i = .int .i64 p ∧ Wd.rest s.data.toList p acc = Wd.rest s.data.toList 0 [] ∧ wr.ownsRow w.heap.size 114 4 v acc.length (cellsOf acc) ∧ Below w.heap.size w wr) (fun _ i _ => s.size - (intOf i).toNat)
  case atStart => exact ⟨0, [], by omega, by simp, by simp, rfl, rfl, World.ownsRow_nil _ _ _ _, Below.refl _ _⟩
  case round =>
    obtain ⟨p, acc, hp, hacc, hacc60, rfl, hrest, hown, hbel⟩ := hrel
    have HR : Hid (Wd.rest s.data.toList p acc = Wd.rest s.data.toList 0 []) := hrest
    clear hrest
    obtain ⟨ao, cap, rfl⟩ := wown_slice hown
    by_cases hlt : p < s.size
    · obtain ⟨r, hd, hx⟩ := drop_at s p hlt
      have c1 := fun w => one_any (s.extract p s.size) w (by simp; unfold maxLen; omega) (by simp; omega)
      have hsz := Wd.first_size (s.extract p s.size).data.toList
      have hstep := Wd.rest_step s.data.toList p acc _ _ hd
      have hxl : (s.extract p s.size).data.toList.length = s.size - p := by simp
      rw [hx] at c1 hsz hxl
      rw [hxl] at hsz
      clear hxl
      have HS : Hid _ := hstep
      clear hstep hd hx
      generalize Wd.first (s[p] :: r) = o at *
      by_cases hc : s[p] = 32
      · have hb : ((s[p].toNat : Int) == 32) = true := by rw [hc]; rfl
        rw [if_pos hc] at HS
        clear hc c1 hsz
        go_wp2
        go_roundw
        case rel => exact ⟨p + 1, acc, by omega, by omega, hacc60, by go_num, by rw [← HS.out]; exact HR.out, hown, hbel⟩
        case measure => simp [intOf]; omega
      · have hb : ((s[p].toNat : Int) == 32) = false := beq_eq_false_iff_ne.2 (fun x => hc (UInt8.toNat_inj.1 (by simpa using Int.ofNat_inj.1 x)))
        rw [if_neg hc] at HS
        clear hc
        by_cases h0 : o.size = 0
        · have hz : ((o.size : Int) == 0) = true := by rw [h0]; rfl
          rw [if_pos (.inl h0)] at HS
          clear h0
          go_wp2_with fail
          refine (c1 _).mono ?_
          rintro e w1 ⟨rfl, hb1⟩
          unfold oneV
          clear c1
          go_wp2
          go_ret3
          have hb2 := hbel.size
          have hb3 := hb1.size
          exact ⟨_, [], p, false, by rw [← HS.out]; exact HR.out.symm, rfl, World.ownsRow_nil _ _ _ _, (hbel.trans (hb1.mono hb2)).alloc (by omega) _⟩
        · have hz : ((o.size : Int) == 0) = false := beq_eq_false_iff_ne.2 (by omega)
          by_cases h60 : acc.length = 60
          · have hy : (60 : Int) ≤ acc.length := by omega
            rw [if_pos (.inr h60)] at HS
            clear h60 h0
            go_wp2_with fail
            refine (c1 _).mono ?_
            rintro e w1 ⟨rfl, hb1⟩
            unfold oneV
            clear c1
            go_wp2
            go_ret3
            have hb2 := hbel.size
            have hb3 := hb1.size
            exact ⟨_, [], p, false, by rw [← HS.out]; exact HR.out.symm, rfl, World.ownsRow_nil _ _ _ _, (hbel.trans (hb1.mono hb2)).alloc (by omega) _⟩
          · have hy : (acc.length : Int) < 60 := by omega
            rw [if_neg (by omega)] at HS
            clear h60
            obtain ⟨i0, hi, hz0, hz1, hz2⟩ := info_parts Tryz.info114
            have hpos : 0 < o.size := by omega
            have hle : p + o.size ≤ s.size := by omega
            clear hsz h0
            go_wp2_with fail
            refine (c1 _).mono ?_
            rintro e w1 ⟨rfl, hb1⟩
            unfold oneV
            clear c1
            have hb2 := hbel.size
            have hb3 := hb1.size
            have hown1 := wown_below hown hb1
            go_wp2_with (at_builtin; refine wpList_append_own _ rfl _ _ 74 rfl w.heap.size 114 i0 _ 4 40 Tryz.underlying74 hi hz0 hz1 hz2 rfl (by decide) _ _ _ rfl ((hown1.alloc _).alloc _) ⟨w1.heap.size + 1, 0, none⟩ 1 1 [.int .i64 o.kind, .string ⟨o.text.toArray⟩, .int .i64 o.num, .int .i64 p] rfl rfl ?c1 ?c2 ?c3 ?c4 ?c5 ?_)
            case c1 =>
              intro j u hj
              match j, hj with
              | 0, hj => simp at hj; subst hj; simp [Addr.add]
              | 1, hj => simp at hj; subst hj; simp [Addr.add]
              | 2, hj => simp at hj; subst hj; simp [Addr.add]
              | 3, hj => simp at hj; subst hj; simp [Addr.add]
            case c2 => intro u hu; simp at hu; rcases hu with rfl | rfl | rfl | rfl <;> rfl
            case c3 => unfold maxLen; omega
            case c4 => omega
            case c5 => simp; omega
            intro v' w2 hown' hgrow _
            have R : w2.ownsRow w.heap.size 114 4 v' (acc ++ [(⟨o.kind, o.text, o.num, p⟩ : Wd.Word)]).length (cellsOf (acc ++ [(⟨o.kind, o.text, o.num, p⟩ : Wd.Word)])) ∧ Below w.heap.size w w2 :=
              ⟨by rw [cellsOf_append, cellsOf_one, List.length_append]; exact hown', (((hbel.trans (hb1.mono hb2)).alloc (by omega) _).alloc (by simp; omega) _).grown hgrow (by simp; omega) (fun k hk => (hown1.lt k hk).1)⟩
            clear hown' hgrow hown1 hown hb1 hbel hi hz0 hz1 hz2
            go_wp2
            go_roundw
            case rel => exact ⟨p + o.size, _, hle, by simp; omega, by simp; omega, by go_num, by rw [← HS.out]; exact HR.out, R.1, R.2⟩
            case measure => simp [intOf]; omega
    · go_wp2
      go_ret3
      exact ⟨_, acc, 0, true, by rw [← HR.out]; exact Wd.rest_end _ _ _ (by simp; omega), rfl, hown, hbel⟩

/-- cardamomref4.Words tells what Wd.all tells, its words in memory of its own; nothing that was there has turned. -/
theorem words_any (s : ByteArray) (w : World) (hs : s.size ≤ maxLen) :
    Calls Tryz.prog 42 #[.string s] w fun e w' => ∃ v, e = .returned (.tuple #[v, .int .i64 (Wd.all s.data.toList).2.1, .bool (Wd.all s.data.toList).2.2]) ∧ w'.ownsRow w.heap.size 114 4 v (Wd.all s.data.toList).1.length (cellsOf (Wd.all s.data.toList).1) ∧ Below w.heap.size w w' := by
  by_cases h : 80 < s.size
  · have e : Wd.all s.data.toList = ([], 0, false) := by unfold Wd.all; rw [if_pos (by simpa using h)]
    rw [e]
    refine (words_great s w h hs).mono ?_
    rintro e w' ⟨rfl, rfl⟩
    exact ⟨_, rfl, World.ownsRow_nil _ _ _ _, Below.refl _ _⟩
  · rw [Wd.all_small _ (by simpa using h)]
    refine (words_small s w (by omega)).mono ?_
    rintro e w' ⟨v, ws, n, ok, hr, rfl, hown, hbel⟩
    rw [hr]
    exact ⟨v, rfl, hown, hbel⟩

end Rf
end Go.Proofs.YtdeojcodbojmoaaGreatDoor
