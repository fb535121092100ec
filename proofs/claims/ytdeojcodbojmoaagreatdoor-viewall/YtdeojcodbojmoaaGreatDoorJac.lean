/- The leaves' contracts: run, value, letter, digit. -/
import Derived.Test.YtdeojcodbojmoaaGreatDoorProg
import Derived.Test.YtdeojcodbojmoaaGreatDoorJaa
import Derived.WalkKit
import Derived.WalkSpells
import Derived.WalkLawsBesides
import Derived.Handy
namespace Go.Proofs.YtdeojcodbojmoaaGreatDoor
open Go.RowKit
set_option maxRecDepth 100000

theorem byteAt (s : ByteArray) (k : Nat) (h : k < s.size) : s.data.toList[k]'(by simpa using h) = s[k] := by
  simp [ByteArray.getElem_eq_getElem_data]

theorem ret_int {k : IntKind} {a b : Int} (h : a = b) : Ending.returned (.int k a) = .returned (.int k b) := by rw [h]

/-- The first k bytes of s lie from lo to hi. -/
def Upto (lo hi : Int) (s : ByteArray) (k : Nat) : Prop := ∀ j (h : j < s.data.toList.length), j < k → lo ≤ (s.data.toList[j].toNat : Int) ∧ (s.data.toList[j].toNat : Int) ≤ hi

theorem Upto.zero (lo hi : Int) (s : ByteArray) : Upto lo hi s 0 := fun j _ hj => by omega

theorem Upto.succ {lo hi : Int} {s : ByteArray} {k : Nat} (h : Upto lo hi s k) (hk : k < s.size) (h1 : lo ≤ (s[k].toNat : Int)) (h2 : (s[k].toNat : Int) ≤ hi) : Upto lo hi s (k + 1) := by
  intro j hj hjk
  by_cases e : j < k
  · exact h j hj e
  · have : j = k := by omega
    subst this
    rw [byteAt s j hk]
    exact ⟨h1, h2⟩

theorem Upto.stop {lo hi : Int} {s : ByteArray} {k : Nat} (h : Upto lo hi s k) (hk : k ≤ s.size) (hs : ∀ h : k < s.size, ¬ (lo ≤ (s[k].toNat : Int) ∧ (s[k].toNat : Int) ≤ hi)) : Wd.cnt lo hi s.data.toList = k :=
  Wd.cnt_eq lo hi _ k (by simpa using hk) h (fun h' => by rw [byteAt s k (by simpa using h')]; exact hs (by simpa using h'))

set_option maxHeartbeats 400000 in
theorem run_any (s : ByteArray) (lo hi : Int) (w : World) (hs : s.size ≤ maxLen) :
    Calls Tryz.prog 78 #[.string s, .int .u8 lo, .int .u8 hi] w fun e w' => e = .returned (.int .i64 (Wd.cnt lo hi s.data.toList)) ∧ w' = w := by
  unfold maxLen at hs
  go_enter Tryz.func78, Tryz.ntmps78
  go_wp2
  go_loop [7] (fun i => ∃ k : Nat, k ≤ s.size ∧ i = .int .i64 k ∧ Upto lo hi s k) (fun i => s.size - (intOf i).toNat)
  case atStart => exact ⟨0, Nat.zero_le _, rfl, Upto.zero _ _ _⟩
  case round =>
    obtain ⟨k, hk, rfl, hall⟩ := hrel
    by_cases hlt : k < s.size
    · go_wp2
      · have h1 : lo ≤ (s[k].toNat : Int) := by assumption
        have h2 : (s[k].toNat : Int) ≤ hi := by assumption
        go_round
        case rel => exact ⟨k + 1, by omega, by go_num, hall.succ hlt h1 h2⟩
        case measure => simp [intOf]; omega
      · have h2 : hi < (s[k].toNat : Int) := by assumption
        go_ret
        exact ⟨ret_int (by rw [hall.stop hk (fun _ => by omega)]), rfl⟩
      · have h2 : (s[k].toNat : Int) < lo := by assumption
        go_ret
        exact ⟨ret_int (by rw [hall.stop hk (fun _ => by omega)]), rfl⟩
    · go_wp2
      go_ret
      exact ⟨ret_int (by rw [hall.stop hk (fun h => by omega)]), rfl⟩

set_option maxHeartbeats 400000 in
theorem letter_any (c : Int) (w : World) :
    Calls Tryz.prog 74 #[.int .u8 c] w fun e w' => e = .returned (.bool (Wd.within 97 122 c)) ∧ w' = w := by
  by_cases h1 : 97 ≤ c
  · by_cases h2 : c ≤ 122
    · have hb := Wd.within_yes h1 h2
      go_enter Tryz.func74, Tryz.ntmps74
      go_wp2
      go_ret
      exact ⟨by rw [hb]; rfl, rfl⟩
    · have hb : Wd.within 97 122 c = false := Wd.within_no (by omega)
      go_enter Tryz.func74, Tryz.ntmps74
      go_wp2
      go_ret
      exact ⟨rfl, rfl⟩
  · have hb : Wd.within 97 122 c = false := Wd.within_no (by omega)
    go_enter Tryz.func74, Tryz.ntmps74
    go_wp2
    go_ret
    exact ⟨rfl, rfl⟩

set_option maxHeartbeats 400000 in
theorem digit_any (c : Int) (w : World) :
    Calls Tryz.prog 75 #[.int .u8 c] w fun e w' => e = .returned (.bool (Wd.within 48 57 c)) ∧ w' = w := by
  by_cases h1 : 48 ≤ c
  · by_cases h2 : c ≤ 57
    · have hb := Wd.within_yes h1 h2
      go_enter Tryz.func75, Tryz.ntmps75
      go_wp2
      go_ret
      exact ⟨by rw [hb]; rfl, rfl⟩
    · have hb : Wd.within 48 57 c = false := Wd.within_no (by omega)
      go_enter Tryz.func75, Tryz.ntmps75
      go_wp2
      go_ret
      exact ⟨rfl, rfl⟩
  · have hb : Wd.within 48 57 c = false := Wd.within_no (by omega)
    go_enter Tryz.func75, Tryz.ntmps75
    go_wp2
    go_ret
    exact ⟨rfl, rfl⟩

theorem val1 (a : UInt8) (h1 : 48 ≤ (a.toNat : Int)) (h2 : (a.toNat : Int) ≤ 57) : ((a.toNat : Int) - 48) % 256 = Wd.value [a] := by
  show _ = (a.toNat : Int) - 48
  omega
theorem val2 (a b : UInt8) (h1 : 48 ≤ (a.toNat : Int)) (h2 : (a.toNat : Int) ≤ 57) (g1 : 48 ≤ (b.toNat : Int)) (g2 : (b.toNat : Int) ≤ 57) :
    10 * (((a.toNat : Int) - 48) % 256) + ((b.toNat : Int) - 48) % 256 = Wd.value [a, b] := by
  show _ = 10 * ((a.toNat : Int) - 48) + ((b.toNat : Int) - 48)
  omega

set_option maxHeartbeats 400000 in
theorem value_one (t : ByteArray) (a : UInt8) (ht : t.data.toList = [a]) (w : World) (h : 48 ≤ (a.toNat : Int) ∧ (a.toNat : Int) ≤ 57) :
    Calls Tryz.prog 80 #[.string t] w fun e w' => e = .returned (.int .i64 (Wd.value t.data.toList)) ∧ w' = w := by
  obtain ⟨h1, h2⟩ := h
  obtain ⟨⟨l⟩⟩ := t
  simp only at ht
  subst ht
  go_enter Tryz.func80, Tryz.ntmps80
  go_wp2
  go_ret
  exact ⟨ret_int (val1 a h1 h2), rfl⟩

set_option maxHeartbeats 400000 in
theorem value_two (t : ByteArray) (a b : UInt8) (ht : t.data.toList = [a, b]) (w : World) (h : 48 ≤ (a.toNat : Int) ∧ (a.toNat : Int) ≤ 57) (g : 48 ≤ (b.toNat : Int) ∧ (b.toNat : Int) ≤ 57) :
    Calls Tryz.prog 80 #[.string t] w fun e w' => e = .returned (.int .i64 (Wd.value t.data.toList)) ∧ w' = w := by
  obtain ⟨h1, h2⟩ := h
  obtain ⟨g1, g2⟩ := g
  obtain ⟨⟨l⟩⟩ := t
  simp only at ht
  subst ht
  go_enter Tryz.func80, Tryz.ntmps80
  go_wp2
  go_ret
  exact ⟨ret_int (val2 a b h1 h2 g1 g2), rfl⟩

/-- One or two digits: what they say. -/
theorem value_any (t : ByteArray) (w : World) (h : ∀ c ∈ t.data.toList, 48 ≤ (c.toNat : Int) ∧ (c.toNat : Int) ≤ 57) (h1 : 1 ≤ t.size) (h2 : t.size ≤ 2) :
    Calls Tryz.prog 80 #[.string t] w fun e w' => e = .returned (.int .i64 (Wd.value t.data.toList)) ∧ w' = w := by
  have hl : t.data.toList.length = t.size := by simp
  match e : t.data.toList with
  | [] => rw [e] at hl; simp at hl; omega
  | [a] => rw [← e]; exact value_one t a e w (h a (by rw [e]; simp))
  | [a, b] => rw [← e]; exact value_two t a b e w (h a (by rw [e]; simp)) (h b (by rw [e]; simp))
  | a :: b :: c :: r => rw [e] at hl; simp at hl; omega

end Go.Proofs.YtdeojcodbojmoaaGreatDoor
