/- EvalTags: a tag that begins so begins with each front of it. -/
import Derived.Test.YtkfjcaifkhlngaaBegun
import Derived.Test.YtkfjcaifkhlngaaHanded
import Derived.BigRegion
import Derived.Laws.BytesArg
namespace Go.Proofs.Ytkfjcaifkhlngaa
open Go.RowKit
set_option linter.unusedVariables false

/-- One byte as a text. -/
def oneB (x : Int) : ByteArray := ⟨#[UInt8.ofNat x.toNat]⟩
theorem oneB_size (x : Int) : (oneB x).size = 1 := rfl

theorem conv1 (w : World) (x : Int) : (convert 22 9 (.slice (some ⟨w.heap.size, 0, none⟩) 1 1)).run Try.prog (w.alloc (.cells #[.int .u8 x] 5)) = .ok (.string (oneB x)) (w.alloc (.cells #[.int .u8 x] 5)) := by
  refine run_convert_bytes_arg _ 22 5 Try.underlying22 Try.underlying5 w.heap.size 0 1 1 [x] rfl (fun i hi => ?_) 9 Try.underlying9
  match i, hi with
  | 0, _ => simp

/-- The tag's letters. -/
def letterAt (z : Int) : Int := 97 + z % 26
def lettersOf (zs : Nat → Int) (k : Nat) : List UInt8 := (List.range k).map (fun j => UInt8.ofNat (letterAt (zs j)).toNat)
def tagOf (zs : Nat → Int) (k : Nat) : ByteArray := ⟨(lettersOf zs k).toArray⟩

theorem tagOf_size (zs : Nat → Int) (k : Nat) : (tagOf zs k).size = k := by
  show (lettersOf zs k).toArray.size = k
  simp [lettersOf]

theorem tagOf_succ (zs : Nat → Int) (k : Nat) : tagOf zs k ++ oneB (97 + zs k % 26) = tagOf zs (k + 1) := by
  apply ByteArray.ext
  apply Array.ext'
  simp [tagOf, lettersOf, oneB, List.range_succ, letterAt]

theorem tagOf_get (zs : Nat → Int) (n k : Nat) (h : k < n) (h' : k < (tagOf zs n).size) : (tagOf zs n)[k] = UInt8.ofNat (letterAt (zs k)).toNat := by
  simp [tagOf, lettersOf, ByteArray.getElem_eq_getElem_data]

theorem front_begins (s : ByteArray) (k : Nat) (h : k ≤ s.size) : Ev.begins s (s.extract 0 k) = true := by
  have e : (s.extract 0 k).size = k := by simp; omega
  unfold Ev.begins
  rw [e]
  simp [h]

theorem short_not (s : ByteArray) (j k : Nat) (h : j < k) (hk : k ≤ s.size) : Ev.begins (s.extract 0 j) (s.extract 0 k) = false := by
  have e : (s.extract 0 k).size = k := by simp; omega
  have e' : (s.extract 0 j).size = j := by simp; omega
  unfold Ev.begins
  rw [e, e']
  simp; omega

theorem other_not (s : ByteArray) (k : Nat) (x : Int) (h : k < s.size) (hx : UInt8.ofNat x.toNat ≠ s[k]) : Ev.begins s (s.extract 0 k ++ oneB x) = false := by
  have e : (s.extract 0 k ++ oneB x).size = k + 1 := by rw [ByteArray.size_append, oneB_size]; simp; omega
  unfold Ev.begins
  rw [e]
  have hne : ¬ (s.extract 0 (k + 1)).toList = (s.extract 0 k ++ oneB x).toList := by
    rw [ByteArray.toList_eq, ByteArray.toList_eq]
    intro q
    have q2 := congrArg (fun l : List UInt8 => l[k]?) q
    have l1 : (s.extract 0 k).data.toList.length = k := by simp; omega
    simp only [ByteArray.data_append, Array.toList_append] at q2
    rw [List.getElem?_append_right (by omega), l1] at q2
    simp [oneB] at q2
    rw [Array.getElem?_eq_getElem h] at q2
    exact hx (Option.some.inj q2).symm
  simp [hne]

set_option maxRecDepth 100000 in
set_option maxHeartbeats 1000000 in
theorem tags_off (ao : Option Addr) (len cap : Nat) (n : Int) (w : World) (hl : len ≤ maxLen) (h : 6 < len ∨ len = 0) :
    Calls Try.prog 8 #[.slice ao len cap, .int .u8 n] w fun e w' => e = .returned (.bool true) ∧ Below w.heap.size w w' := by
  unfold maxLen at hl
  rcases h with h | rfl
  · go_enter Try.func8, Try.ntmps8
    go_wp2_with fail
    refine (begun9 _).mono ?_
    rintro e w1 ⟨rfl, hb1⟩
    go_wp2
    go_ret
    exact ⟨rfl, hb1⟩
  · go_enter Try.func8, Try.ntmps8
    go_wp2_with fail
    refine (begun9 _).mono ?_
    rintro e w1 ⟨rfl, hb1⟩
    go_wp2
    go_ret
    exact ⟨rfl, hb1⟩

set_option maxRecDepth 100000 in
set_option maxHeartbeats 1000000 in
theorem tags_on (ao : Option Addr) (len cap : Nat) (n : Int) (w : World) (hn : 0 ≤ n) (hn' : n ≤ 255) (h0 : 0 < len) (h6 : len ≤ 6) (b off : Nat) (zs : Nat → Int) (hao : ao = some ⟨b, off, none⟩) (hbw : b < w.heap.size)
    (hcell : ∀ j, j < len → w.cell? ⟨b, off + j, none⟩ = some (.int .u8 (zs j)) ∧ 0 ≤ zs j ∧ zs j ≤ 255) :
    Calls Try.prog 8 #[.slice ao len cap, .int .u8 n] w fun e w' => e = .returned (.bool true) ∧ Below w.heap.size w w' := by
  subst hao
  have hl0 : ((len : Int) == 0) = false := beq_eq_false_iff_ne.2 (by omega)
  go_enter Try.func8, Try.ntmps8
  go_wp2_with fail
  refine (begun9 _).mono ?_
  rintro e w1 ⟨rfl, hb1⟩
  go_wp2_with fail
  go_loopw [5, 6] (fun s i wr => ∃ k : Nat, k ≤ len ∧ i = .int .i64 k ∧ s = .string (tagOf zs k) ∧ Below w.heap.size w wr) (fun _ i _ => len - (intOf i).toNat)
  case atStart => exact ⟨0, by omega, rfl, rfl, hb1⟩
  case round =>
    obtain ⟨k, hk, rfl, rfl, hbel⟩ := hrel
    have hts := tagOf_size zs k
    have hbs := hbel.size
    by_cases hlt : k < len
    · obtain ⟨hc1, hz0, hz1⟩ := hcell k hlt
      have hc2 : wr.cell? ⟨b, off + k, none⟩ = some (.int .u8 (zs k)) := (hbel.cell hbw).trans hc1
      have hcv := conv1 wr
      have hsu := tagOf_succ zs k
      have HS : Hid (tagOf zs k ++ oneB (97 + zs k % 26) = tagOf zs (k + 1)) := hsu
      have ho := oneB_size (97 + zs k % 26)
      have hts' : (tagOf zs k).size ≤ 6 := by omega
      clear hcell hc1 hb1 hsu hts
      generalize zs k = z at *
      go_wp2
      go_roundw
      case rel => exact ⟨k + 1, by omega, by go_num, by rw [HS.out], hbel.alloc hbs _⟩
      case measure => simp [intOf]; omega
    · have e : k = len := by omega
      subst e
      have hz := hcell
      clear hcell hb1
      obtain ⟨s, hs⟩ : ∃ s, s = tagOf zs k := ⟨_, rfl⟩
      rw [← hs] at hts ⊢
      have HS : Hid (s = tagOf zs k) := hs
      have hq := Int.emod_nonneg n (b := (k : Int)) (by omega)
      have hq' := Int.emod_lt_of_pos n (b := (k : Int)) (by omega)
      obtain ⟨m, hm⟩ : ∃ m : Nat, (m : Int) = n % (k : Int) := ⟨(n % (k : Int)).toNat, by omega⟩
      have hm1 : m < k := by omega
      have hms : m < s.size := by omega
      have hss : s.size ≤ 6 := by omega
      have hw1 : wrap64 (1 + n % (k : Int)) = ((m + 1 : Nat) : Int) := by rw [← hm]; unfold wrap64; omega
      have hw2 : IntKind.i64.wrap (((m + 1 : Nat) : Int) - 1) = (m : Int) := by simp only [IntKind.wrap, IntKind.signed, IntKind.bits]; simp; omega
      have hlet := tagOf_get zs k m hm1 (by rw [tagOf_size]; exact hm1)
      have hzm := hz m hm1
      have hlb : 97 ≤ letterAt (zs m) ∧ letterAt (zs m) ≤ 122 := by unfold letterAt; omega
      have hsm : s[m] = UInt8.ofNat (letterAt (zs m)).toNat := by subst hs; exact hlet
      have hcn : ((s[m].toNat : Nat) : Int) = letterAt (zs m) := by rw [hsm, UInt8.toNat_ofNat']; omega
      obtain ⟨c, hc⟩ : ∃ c : Int, c = letterAt (zs m) := ⟨_, rfl⟩
      rw [← hc] at hcn hlb
      clear hz hzm hlet hs hq hq' hm
      obtain ⟨x, hx⟩ : ∃ x : Int, x = 97 + (c - 96) % 26 := ⟨_, rfl⟩
      have hu1 : IntKind.u8.wrap (c - 97) = c - 97 := by simp only [IntKind.wrap, IntKind.signed, IntKind.bits]; simp; omega
      have hu2 : IntKind.u8.wrap (c - 97 + 1) = c - 96 := by simp only [IntKind.wrap, IntKind.signed, IntKind.bits]; simp; omega
      have hu3 : (c - 96).tmod 26 = (c - 96) % 26 := Int.tmod_eq_emod_of_nonneg (by omega)
      have hu4 : IntKind.u8.wrap (97 + (c - 96) % 26) = x := by simp only [IntKind.wrap, IntKind.signed, IntKind.bits]; simp; omega
      have hxb : UInt8.ofNat x.toNat ≠ s[m] := by
        intro q
        have q2 := congrArg UInt8.toNat q
        rw [UInt8.toNat_ofNat'] at q2
        omega
      have HX : Hid (UInt8.ofNat x.toNat ≠ s[m]) := hxb
      have HC : Hid (c = letterAt (zs m)) := hc
      have HM : Hid (s[m] = UInt8.ofNat (letterAt (zs m)).toNat) := hsm
      clear hx hxb hc hsm
      have hcv : ∀ (V : World) (g : Nat), V.cell? ⟨g, 0, none⟩ = some (.int .u8 x) → (convert 22 9 (.slice (some ⟨g, 0, none⟩) 1 1)).run Try.prog V = .ok (.string (oneB x)) V := fun V g hg =>
        run_convert_bytes_arg _ 22 5 Try.underlying22 Try.underlying5 g 0 1 1 [x] rfl (fun i hi => by match i, hi with | 0, _ => exact hg) 9 Try.underlying9
      have had : ∀ V, (Op.stringOp .add (s.extract 0 m) (oneB x)).run Try.prog V = .ok (.string (s.extract 0 m ++ oneB x)) V := fun V => run_string_add_sum V _ _ (by rw [oneB_size]; simp; omega)
      have hsz1 : (s.extract 0 m).size = m := by simp; omega
      have c1 := fun w' => lets_bare ⟨1, 1, 1, 1, false, none, 0, 0, s, ⟨#[]⟩⟩ [] w' 4 0 0 0 (s.extract 0 (m + 1)) true (by omega) (by simp; omega) (has_none rfl (by show s.size ≤ 1000; omega)) (front_begins s (m + 1) (by omega))
      have c2 := fun w' => lets_bare ⟨1, 1, 1, 1, false, none, 0, 0, s, ⟨#[]⟩⟩ [] w' 4 0 0 0 (s.extract 0 m ++ oneB x) false (by omega) (by rw [ByteArray.size_append, oneB_size]; simp; omega) (has_none rfl (by show s.size ≤ 1000; omega)) (other_not s m x (by omega) HX.out)
      have c3 := fun w' => lets_bare ⟨1, 1, 1, 1, false, none, 0, 0, s.extract 0 m, ⟨#[]⟩⟩ [] w' 4 0 0 0 (s.extract 0 (m + 1)) false (by omega) (by simp; omega) (has_none rfl (by show (s.extract 0 m).size ≤ 1000; omega)) (short_not s m (m + 1) (by omega) (by omega))
      unfold Vs.val at c1 c2 c3
      simp only at c1 c2 c3
      go_wp2_with fail
      go_region
      all_goals
        go_wp2_with fail
        refine (c1 _).mono ?_
        rintro e w2 ⟨rfl, hb2⟩
        have hcl := fun b o (h : b < wr.heap.size + 5) => hb2.cell (p := ⟨b, o, none⟩) (by simp; omega)
        have hbw2 : Below w.heap.size w w2 := (((((((hbel.alloc hbs _).alloc (by simp; omega) _).alloc (by simp; omega) _).alloc (by simp; omega) _).alloc (by simp; omega) _).drew).trans (hb2.mono (by simp; omega)))
        have hs2 : wr.heap.size + 5 ≤ w2.heap.size := by have := hb2.size; simp at this; omega
        clear hb2 hcv had
        go_wp2_with fail
        refine (c2 _).mono ?_
        rintro e w3 ⟨rfl, hb3⟩
        have hcl3 := fun b o (h : b < wr.heap.size + 5) => hb3.cell (p := ⟨b, o, none⟩) (Nat.lt_of_lt_of_le h hs2)
        have hbw3 : Below w.heap.size w w3 := hbw2.trans (hb3.mono (by omega))
        clear hb3
        go_wp2_with fail
        refine (c3 _).mono ?_
        rintro e w4 ⟨rfl, hb4⟩
        have hbw4 : Below w.heap.size w w4 := hbw3.trans (hb4.mono hbw3.size)
        clear hcl hcl3 c1 c2 c3 hb4
        go_wp2
        go_ret
        exact ⟨rfl, hbw4⟩

theorem tags_any (ao : Option Addr) (len cap : Nat) (n : Int) (w : World) (hr : Reads8 w ao len) (hn : 0 ≤ n ∧ n ≤ 255) :
    Calls Try.prog 8 #[.slice ao len cap, .int .u8 n] w fun e w' => e = .returned (.bool true) ∧ Below w.heap.size w w' := by
  obtain ⟨hl, b, off, zs, hao, hcell⟩ := hr
  by_cases h : 6 < len ∨ len = 0
  · exact tags_off ao len cap n w hl h
  · obtain ⟨h1, h2⟩ := hao (by omega)
    exact tags_on ao len cap n w hn.1 hn.2 (by omega) (by omega) b off zs h1 h2 hcell

end Go.Proofs.Ytkfjcaifkhlngaa
