/- WordBack: words written one by one are read. -/
import Derived.Test.YtakfoljpehlmgaaBegun
import Derived.Test.YtakfoljpehlmgaaWrite
import Derived.Deep.RegionHeld3
import Derived.Deep.AppendLies
import Derived.BigRegion
import Derived.Laws.BytesArg
import Derived.BigQuiet
import Derived.Deep.QuietTactic
namespace Go.Proofs.Ytakfoljpehlmgaa
open Go.RowKit

set_option maxRecDepth 100000 in
set_option maxHeartbeats 1000000 in
theorem back_long (ao : Option Addr) (len cap : Nat) (bl : Int) (w : World) (hl : len ≤ maxLen) (h : 15 < len) :
    Calls Try.prog 5 #[.slice ao len cap, .int .u8 bl] w fun e w' => e = .returned (.bool true) ∧ Below w.heap.size w w' := by
  unfold maxLen at hl
  go_enter Try.func5, Try.ntmps5
  go_wp2_with fail
  refine (begun_any _).mono ?_
  rintro e w1 ⟨rfl, hb1⟩
  go_wp2
  go_ret
  exact ⟨rfl, hb1⟩

/-- A text of two bytes. -/
def two (x y : Int) : ByteArray := ⟨#[UInt8.ofNat x.toNat, UInt8.ofNat y.toNat]⟩
theorem two_size (x y : Int) : (two x y).size = 2 := rfl

/-- Two bytes that were just laid, as a text. -/
theorem conv2 (w : World) (O : Obj) (x y : Int) : (convert 22 9 (.slice (some ⟨w.heap.size + 1, 0, none⟩) 2 2)).run Try.prog ((w.alloc O).alloc (.cells #[.int .u8 x, .int .u8 y] 5)).drew =
    .ok (.string (two x y)) ((w.alloc O).alloc (.cells #[.int .u8 x, .int .u8 y] 5)).drew := by
  refine run_convert_bytes_arg _ 22 5 Try.underlying22 Try.underlying5 (w.heap.size + 1) 0 2 2 [x, y] rfl (fun i hi => ?_) 9 Try.underlying9
  match i, hi with
  | 0, _ => simp
  | 1, _ => simp

/-- So many blanks stand behind each word. -/
def gap (bl : Nat) : Nat := 1 + bl % 3

theorem gap_wrap (bl : Nat) : IntKind.u8.wrap (1 + (bl : Int) % 3) = (gap bl : Int) := by
  have h : ((gap bl : Nat) : Int) = 1 + (bl : Int) % 3 := by unfold gap; omega
  rw [h]
  simp only [IntKind.wrap, IntKind.signed, IntKind.bits]
  simp
  omega

/-- A text as Go has it. -/
def textB (b : Nat) (zs : List Nat) : ByteArray := ⟨(Wd.text b zs).toArray⟩

theorem textB_size (b : Nat) (zs : List Nat) : (textB b zs).size = (Wd.text b zs).length := by simp [textB, ByteArray.size]

theorem range_step (k : Nat) (zs : Nat → Nat) : (List.range (k + 1)).map zs = (List.range k).map zs ++ [zs k] := by
  rw [List.range_succ, List.map_append]; rfl

theorem blanks_eq (g : Nat) (h : g ≤ 3) : (⟨#[32, 32, 32]⟩ : ByteArray).extract 0 g = ⟨(List.replicate g (32 : UInt8)).toArray⟩ := by
  match g, h with
  | 0, _ => rfl
  | 1, _ => rfl
  | 2, _ => rfl
  | 3, _ => rfl

theorem text_step (g k : Nat) (zs : Nat → Nat) (h : g ≤ 3) :
    Value.string (textB g ((List.range (k + 1)).map zs)) = Value.string (textB g ((List.range k).map zs) ++ ⟨(Wd.bytesOf (zs k)).toArray⟩ ++ (⟨#[32, 32, 32]⟩ : ByteArray).extract 0 g) := by
  rw [range_step, blanks_eq g h]
  unfold textB
  rw [Wd.text_snoc]
  congr 1

theorem words_step (g k : Nat) (zs : Nat → Nat) :
    Wd.wordsFrom g 0 ((List.range (k + 1)).map zs) = Wd.wordsFrom g 0 ((List.range k).map zs) ++ [Wd.wordOf (zs k) (textB g ((List.range k).map zs)).size] := by
  rw [range_step, Wd.words_snoc, textB_size, Nat.zero_add]

theorem text_small (g k : Nat) (zs : Nat → Nat) (hk : k ≤ 15) (hg : g ≤ 3) : (textB g ((List.range k).map zs)).size ≤ 75 := by
  rw [textB_size]
  have h := Wd.text_len g ((List.range k).map zs)
  have h2 : ((List.range k).map zs).length * (2 + g) ≤ 15 * 5 := Nat.mul_le_mul (by simpa using hk) (by omega)
  omega

theorem two_name (z : Nat) (h : z % 3 = 0) : two (97 + z / 3 % 26) (97 + z / 80 % 26) = ⟨(Wd.bytesOf z).toArray⟩ := by
  unfold two Wd.bytesOf
  rw [if_pos h]
  have e1 : ((97 : Int) + z / 3 % 26).toNat = 97 + z / 3 % 26 := by omega
  have e2 : ((97 : Int) + z / 80 % 26).toNat = 97 + z / 80 % 26 := by omega
  rw [e1, e2]

theorem cells_name (z p : Nat) (h : z % 3 = 0) : wordCells (Wd.wordOf z p) = [.int .i64 1, .string (two (97 + z / 3 % 26) (97 + z / 80 % 26)), .int .i64 0, .int .i64 p] := by
  rw [two_name z h]
  unfold Wd.wordOf Wd.bytesOf
  rw [if_pos h, if_pos h]
  rfl

theorem two_number (z : Nat) (h : z % 3 = 1) : two (48 + z / 3 % 10) (48 + z / 30 % 10) = ⟨(Wd.bytesOf z).toArray⟩ := by
  unfold two Wd.bytesOf
  rw [if_neg (by omega), if_pos h]
  have e1 : ((48 : Int) + z / 3 % 10).toNat = 48 + z / 3 % 10 := by omega
  have e2 : ((48 : Int) + z / 30 % 10).toNat = 48 + z / 30 % 10 := by omega
  rw [e1, e2]

theorem cells_number (z p : Nat) (h : z % 3 = 1) : wordCells (Wd.wordOf z p) = [.int .i64 2, .string ⟨#[]⟩, .int .i64 (z / 3 % 10 * 10 + z / 30 % 10), .int .i64 p] := by
  unfold Wd.wordOf
  rw [if_neg (by omega), if_pos h]
  have e : (((z / 3 % 10 : Nat) : Int) * 10 + ((z / 30 % 10 : Nat) : Int)) = (z : Int) / 3 % 10 * 10 + (z : Int) / 30 % 10 := by omega
  rw [e]
  rfl

theorem mark_bytes (z : Nat) (h0 : ¬ z % 3 = 0) (h1 : ¬ z % 3 = 1) : (⟨#[40, 41, 33, 38, 124, 42, 61, 58, 45, 64, 94]⟩ : ByteArray).extract (z / 3 % 11) (z / 3 % 11 + 1) = ⟨(Wd.bytesOf z).toArray⟩ := by
  unfold Wd.bytesOf
  rw [if_neg h0, if_neg h1]
  have hk : z / 3 % 11 < 11 := by omega
  generalize z / 3 % 11 = k at *
  match k, hk with
  | 0, _ => rfl
  | 1, _ => rfl
  | 2, _ => rfl
  | 3, _ => rfl
  | 4, _ => rfl
  | 5, _ => rfl
  | 6, _ => rfl
  | 7, _ => rfl
  | 8, _ => rfl
  | 9, _ => rfl
  | 10, _ => rfl

theorem cells_mark (z p : Nat) (h0 : ¬ z % 3 = 0) (h1 : ¬ z % 3 = 1) : wordCells (Wd.wordOf z p) = [.int .i64 3, .string ((⟨#[40, 41, 33, 38, 124, 42, 61, 58, 45, 64, 94]⟩ : ByteArray).extract (z / 3 % 11) (z / 3 % 11 + 1)), .int .i64 0, .int .i64 p] := by
  rw [mark_bytes z h0 h1]
  unfold Wd.wordOf Wd.bytesOf
  rw [if_neg h0, if_neg h1, if_neg h0, if_neg h1]
  rfl

set_option maxRecDepth 100000 in
set_option maxHeartbeats 4000000 in
theorem back_short (ao : Option Addr) (len cap : Nat) (bl : Nat) (zs : Nat → Nat) (w : World) (hl : len ≤ 15) (hbl : bl ≤ 255)
    (b off : Nat) (hao : 0 < len → ao = some ⟨b, off, none⟩ ∧ b < w.heap.size) (hcell : ∀ j, j < len → w.cell? ⟨b, off + j, none⟩ = some (.int .u16 (zs j)) ∧ zs j ≤ 65535) :
    Calls Try.prog 5 #[.slice ao len cap, .int .u8 bl] w fun e w' => e = .returned (.bool true) ∧ Below w.heap.size w w' := by
  obtain ⟨g, hg⟩ : ∃ g, g = gap bl := ⟨_, rfl⟩
  have hg1 : 1 ≤ g ∧ g ≤ 3 := by rw [hg]; unfold gap; omega
  have HG : Hid (g = gap bl) := hg
  clear hg
  go_enter Try.func5, Try.ntmps5
  go_wp2_with fail
  refine (begun_any _).mono ?_
  rintro e w1 ⟨rfl, hb1⟩
  go_wp2_with fail
  go_loopw [5, 6, 7] (fun s v i wr => ∃ k : Nat, k ≤ len ∧ i = .int .i64 k ∧ s = .string (textB g ((List.range k).map zs)) ∧ wr.ownsRow w.heap.size 35 4 v k (cellsOf (Wd.wordsFrom g 0 ((List.range k).map zs))) ∧ Below w.heap.size w wr) (fun _ _ i _ => len - (intOf i).toNat)
  case atStart => exact ⟨0, by omega, rfl, rfl, World.ownsRow_nil _ _ _ _, hb1⟩
  case round =>
    obtain ⟨k, hk, rfl, rfl, hown, hbel⟩ := hrel
    obtain ⟨ao6, cap6, rfl⟩ := own_slice hown
    have hss := text_small g k zs (by omega) hg1.2
    by_cases hlt : k < len
    · obtain ⟨rfl, hbs⟩ := hao (by omega)
      obtain ⟨hc1, hz1⟩ := hcell k hlt
      have hc2 : wr.cell? ⟨b, off + k, none⟩ = some (.int .u16 (zs k)) := (hbel.cell hbs).trans hc1
      have hbb : b < wr.heap.size := Nat.lt_of_lt_of_le hbs hbel.size
      have hk0 : (0 : Int) ≤ (k : Int) := by omega
      have hk1 : (k : Int) < (len : Int) := by omega
      clear hcell hc1 hb1 hao
      obtain ⟨z, hz⟩ : ∃ z, z = zs k := ⟨_, rfl⟩
      rw [← hz] at hc2 hz1
      have HZ : Hid (z = zs k) := hz
      obtain ⟨s, hs⟩ : ∃ s, s = textB g ((List.range k).map zs) := ⟨_, rfl⟩
      rw [← hs] at hss ⊢
      have HS : Hid (s = textB g ((List.range k).map zs)) := hs
      clear hz hs
      by_cases h0 : z % 3 = 0
      · have hb0 : ((z : Int) % 3 == 0) = true := beq_iff_eq.2 (by omega)
        have hcv := conv2 wr
        go_wp2
        go_region
        go_wp2
        have hcl : ∃ V, V = ((wr.alloc (.cells #[.int .i64 1, .string (two (97 + z / 3 % 26) (97 + z / 80 % 26)), .int .i64 0, .int .i64 s.size] 35)).alloc (.cells #[.int .u8 (97 + z / 3 % 26), .int .u8 (97 + z / 80 % 26)] 5)).drew := ⟨_, rfl⟩
        obtain ⟨V, hV⟩ := hcl
        rw [← hV]
        have p0 : V.cell? ⟨wr.heap.size, 0, none⟩ = some (.int .i64 1) := by rw [hV]; simp
        have p1 : V.cell? ⟨wr.heap.size, 1, none⟩ = some (.string (two (97 + z / 3 % 26) (97 + z / 80 % 26))) := by rw [hV]; simp
        have p2 : V.cell? ⟨wr.heap.size, 2, none⟩ = some (.int .i64 0) := by rw [hV]; simp
        have p3 : V.cell? ⟨wr.heap.size, 3, none⟩ = some (.int .i64 s.size) := by rw [hV]; simp
        have hbV : Below wr.heap.size wr V := by rw [hV]; exact (((Below.refl _ wr).alloc (Nat.le_refl _) _).alloc (by simp) _).drew
        have hVs : wr.heap.size < V.heap.size := by rw [hV]; simp <;> omega
        have hownV := own_below hown hbV
        have ag : (Value.slice ao6 k cap6).ownBlock ≠ some wr.heap.size := fun e => by have := hown.lt _ e; omega
        obtain ⟨i0, hi0, hj0, hj1, hj2⟩ := info_parts Try.info35
        have hbase : w.heap.size ≤ V.heap.size := by have := hbel.size; omega
        have hbVw : Below w.heap.size w V := hbel.trans (hbV.mono hbel.size)
        have HD : Hid (two (97 + z / 3 % 26) (97 + z / 80 % 26) = ⟨(Wd.bytesOf z).toArray⟩) := two_name z h0
        have HW : Hid (wordCells (Wd.wordOf z s.size) = [.int .i64 1, .string (two (97 + z / 3 % 26) (97 + z / 80 % 26)), .int .i64 0, .int .i64 s.size]) := cells_name z s.size h0
        generalize two (97 + z / 3 % 26) (97 + z / 80 % 26) = d at *
        have hd3 : d.size ≤ 2 := by rw [HD.out]; exact (Wd.bytesOf_le z).2
        have ad1 : ∀ W, (Op.stringOp .add s d).run Try.prog W = .ok (.string (s ++ d)) W := fun W => run_string_add_sum W s d (by omega)
        have hsd : (s ++ d).size ≤ 2000 := by rw [ByteArray.size_append]; omega
        obtain ⟨sd, hsd0⟩ : ∃ sd, sd = s ++ d := ⟨_, rfl⟩
        rw [← hsd0] at hsd ad1
        have HSD : Hid (sd = s ++ d) := hsd0
        clear hsd0
        have ad2 : ∀ W x, x ≤ 3 → (Op.stringOp .add sd ((⟨#[32, 32, 32]⟩ : ByteArray).extract 0 x)).run Try.prog W = .ok (.string (sd ++ (⟨#[32, 32, 32]⟩ : ByteArray).extract 0 x)) W := fun W x _ => run_string_add_sum W _ _ (by simp; omega)
        have hwr : IntKind.u8.wrap (1 + (bl : Int).tmod 3) = (g : Int) := by rw [HG.out, Int.tmod_eq_emod_of_nonneg (by omega), gap_wrap bl]
        have hg0 : (0 : Int) ≤ (g : Int) := by omega
        have hg4 : (g : Int) ≤ 3 := by omega
        clear hV hc2 hcv hb0
        go_region_held3 (fun w' => w'.cell? ⟨wr.heap.size, 0, none⟩ = some (.int .i64 1) ∧ w'.cell? ⟨wr.heap.size, 1, none⟩ = some (.string d) ∧ w'.cell? ⟨wr.heap.size, 2, none⟩ = some (.int .i64 0) ∧ w'.cell? ⟨wr.heap.size, 3, none⟩ = some (.int .i64 s.size))
          (first
            | go_keep
            | (go_split_ands
               refine ⟨?_, ?_, ?_, ?_⟩
               · (rw [hgrow.cell_far _ (by simp; omega) (Ne.symm ag)]; assumption)
               · (rw [hgrow.cell_far _ (by simp; omega) (Ne.symm ag)]; assumption)
               · (rw [hgrow.cell_far _ (by simp; omega) (Ne.symm ag)]; assumption)
               · (rw [hgrow.cell_far _ (by simp; omega) (Ne.symm ag)]; assumption)))
          ((refine step_append_lies _ (by rfl) _ _ _ (by rfl) w.heap.size 35 i0 _ 4 40 Try.underlying25 hi0 hj0 hj1 hj2 rfl (by omega) _ _ _ (by rfl) ((hownV.alloc _).drew) ⟨V.heap.size, 0, none⟩ 1 1 [.int .i64 1, .string d, .int .i64 0, .int .i64 s.size] (by rfl) (by rfl) (World.news_of_block (cs := #[.int .i64 1, .string d, .int .i64 0, .int .i64 s.size]) (t := 35) (fr := (0, 0)) (heap_alloc_new V _)) (by simp [Value.oneCell']) (by omega) (by unfold maxLen; omega) (by omega) (by simp; omega) (V.heap.size + 1) (by simp) ?_; intro gg cap7 w2 hown1 hgrow hat hlt2))
        have R : w2.ownsRow w.heap.size 35 4 (.slice (some ⟨gg, 0, none⟩) (k + 1) cap7) (k + 1) (cellsOf (Wd.wordsFrom g 0 ((List.range (k + 1)).map zs))) := by
          rw [words_step, cellsOf_append, cellsOf_one, ← HZ.out, ← HS.out, HW.out]
          exact hown1
        have hbn : Below w.heap.size w w2 := ((hbVw.alloc hbase _).drew).grown hgrow (by simp; omega) (fun j hj => (hownV.lt j hj).1)
        clear hown1 hgrow hownV hown hbel hbV hbVw ad1 ad2 hi0 hj0 hj1 hj2 hwr p0 p1 p2 p3
        go_wp2
        go_roundw
        case rel => exact ⟨k + 1, by omega, by go_num, by rw [text_step g k zs (by omega), ← HS.out, ← HZ.out, ← HD.out, ← HSD.out], R, hbn⟩
        case measure => simp [intOf]; omega
      · have hb0 : ((z : Int) % 3 == 0) = false := beq_eq_false_iff_ne.2 (by omega)
        by_cases h1 : z % 3 = 1
        · have hb1 : ((z : Int) % 3 == 1) = true := beq_iff_eq.2 (by omega)
          have hcv := conv2 wr
          go_wp2
          go_region
          go_wp2
          go_region
          go_wp2
          have hcl : ∃ V, V = ((wr.alloc (.cells #[.int .i64 2, .string ⟨#[]⟩, .int .i64 (z / 3 % 10 * 10 + z / 30 % 10), .int .i64 s.size] 35)).alloc (.cells #[.int .u8 (48 + z / 3 % 10), .int .u8 (48 + z / 30 % 10)] 5)).drew.drew := ⟨_, rfl⟩
          obtain ⟨V, hV⟩ := hcl
          rw [← hV]
          have p0 : V.cell? ⟨wr.heap.size, 0, none⟩ = some (.int .i64 2) := by rw [hV]; simp
          have p1 : V.cell? ⟨wr.heap.size, 1, none⟩ = some (.string ⟨#[]⟩) := by rw [hV]; simp
          have p2 : V.cell? ⟨wr.heap.size, 2, none⟩ = some (.int .i64 (z / 3 % 10 * 10 + z / 30 % 10)) := by rw [hV]; simp
          have p3 : V.cell? ⟨wr.heap.size, 3, none⟩ = some (.int .i64 s.size) := by rw [hV]; simp
          have hbV : Below wr.heap.size wr V := by rw [hV]; exact (((Below.refl _ wr).alloc (Nat.le_refl _) _).alloc (by simp) _).drew.drew
          have hVs : wr.heap.size < V.heap.size := by rw [hV]; simp <;> omega
          have hownV := own_below hown hbV
          have ag : (Value.slice ao6 k cap6).ownBlock ≠ some wr.heap.size := fun e => by have := hown.lt _ e; omega
          obtain ⟨i0, hi0, hj0, hj1, hj2⟩ := info_parts Try.info35
          have hbase : w.heap.size ≤ V.heap.size := by have := hbel.size; omega
          have hbVw : Below w.heap.size w V := hbel.trans (hbV.mono hbel.size)
          have HD : Hid (two (48 + z / 3 % 10) (48 + z / 30 % 10) = ⟨(Wd.bytesOf z).toArray⟩) := two_number z h1
          have HW : Hid (wordCells (Wd.wordOf z s.size) = [.int .i64 2, .string ⟨#[]⟩, .int .i64 (z / 3 % 10 * 10 + z / 30 % 10), .int .i64 s.size]) := cells_number z s.size h1
          generalize ((z : Int) / 3 % 10 * 10 + (z : Int) / 30 % 10) = nm at *
          generalize two (48 + z / 3 % 10) (48 + z / 30 % 10) = d at *
          have hd3 : d.size ≤ 2 := by rw [HD.out]; exact (Wd.bytesOf_le z).2
          have ad1 : ∀ W, (Op.stringOp .add s d).run Try.prog W = .ok (.string (s ++ d)) W := fun W => run_string_add_sum W s d (by omega)
          have hsd : (s ++ d).size ≤ 2000 := by rw [ByteArray.size_append]; omega
          obtain ⟨sd, hsd0⟩ : ∃ sd, sd = s ++ d := ⟨_, rfl⟩
          rw [← hsd0] at hsd ad1
          have HSD : Hid (sd = s ++ d) := hsd0
          clear hsd0
          have ad2 : ∀ W x, x ≤ 3 → (Op.stringOp .add sd ((⟨#[32, 32, 32]⟩ : ByteArray).extract 0 x)).run Try.prog W = .ok (.string (sd ++ (⟨#[32, 32, 32]⟩ : ByteArray).extract 0 x)) W := fun W x _ => run_string_add_sum W _ _ (by simp; omega)
          have hwr : IntKind.u8.wrap (1 + (bl : Int).tmod 3) = (g : Int) := by rw [HG.out, Int.tmod_eq_emod_of_nonneg (by omega), gap_wrap bl]
          have hg0 : (0 : Int) ≤ (g : Int) := by omega
          have hg4 : (g : Int) ≤ 3 := by omega
          clear hV hc2 hcv hb0 hb1
          go_region_held3 (fun w' => w'.cell? ⟨wr.heap.size, 0, none⟩ = some (.int .i64 2) ∧ w'.cell? ⟨wr.heap.size, 1, none⟩ = some (.string ⟨#[]⟩) ∧ w'.cell? ⟨wr.heap.size, 2, none⟩ = some (.int .i64 nm) ∧ w'.cell? ⟨wr.heap.size, 3, none⟩ = some (.int .i64 s.size))
            (first
              | go_keep
              | (go_split_ands
                 refine ⟨?_, ?_, ?_, ?_⟩
                 · (rw [hgrow.cell_far _ (by simp; omega) (Ne.symm ag)]; assumption)
                 · (rw [hgrow.cell_far _ (by simp; omega) (Ne.symm ag)]; assumption)
                 · (rw [hgrow.cell_far _ (by simp; omega) (Ne.symm ag)]; assumption)
                 · (rw [hgrow.cell_far _ (by simp; omega) (Ne.symm ag)]; assumption)))
            ((refine step_append_lies _ (by rfl) _ _ _ (by rfl) w.heap.size 35 i0 _ 4 40 Try.underlying25 hi0 hj0 hj1 hj2 rfl (by omega) _ _ _ (by rfl) ((hownV.alloc _).drew) ⟨V.heap.size, 0, none⟩ 1 1 [.int .i64 2, .string ⟨#[]⟩, .int .i64 nm, .int .i64 s.size] (by rfl) (by rfl) (World.news_of_block (cs := #[.int .i64 2, .string ⟨#[]⟩, .int .i64 nm, .int .i64 s.size]) (t := 35) (fr := (0, 0)) (heap_alloc_new V _)) (by simp [Value.oneCell']) (by omega) (by unfold maxLen; omega) (by omega) (by simp; omega) (V.heap.size + 1) (by simp) ?_; intro gg cap7 w2 hown1 hgrow hat hlt2))
          have R : w2.ownsRow w.heap.size 35 4 (.slice (some ⟨gg, 0, none⟩) (k + 1) cap7) (k + 1) (cellsOf (Wd.wordsFrom g 0 ((List.range (k + 1)).map zs))) := by
            rw [words_step, cellsOf_append, cellsOf_one, ← HZ.out, ← HS.out, HW.out]
            exact hown1
          have hbn : Below w.heap.size w w2 := ((hbVw.alloc hbase _).drew).grown hgrow (by simp; omega) (fun j hj => (hownV.lt j hj).1)
          clear hown1 hgrow hownV hown hbel hbV hbVw ad1 ad2 hi0 hj0 hj1 hj2 hwr p0 p1 p2 p3
          go_wp2
          go_roundw
          case rel => exact ⟨k + 1, by omega, by go_num, by rw [text_step g k zs (by omega), ← HS.out, ← HZ.out, ← HD.out, ← HSD.out], R, hbn⟩
          case measure => simp [intOf]; omega
        · have hb1 : ((z : Int) % 3 == 1) = false := beq_eq_false_iff_ne.2 (by omega)
          go_wp2
          have hcl : ∃ V, V = (wr.alloc (.cells #[.int .i64 3, .string ((⟨#[40, 41, 33, 38, 124, 42, 61, 58, 45, 64, 94]⟩ : ByteArray).extract (z / 3 % 11) (z / 3 % 11 + 1)), .int .i64 0, .int .i64 s.size] 35)) := ⟨_, rfl⟩
          obtain ⟨V, hV⟩ := hcl
          rw [← hV]
          have p0 : V.cell? ⟨wr.heap.size, 0, none⟩ = some (.int .i64 3) := by rw [hV]; simp
          have p1 : V.cell? ⟨wr.heap.size, 1, none⟩ = some (.string ((⟨#[40, 41, 33, 38, 124, 42, 61, 58, 45, 64, 94]⟩ : ByteArray).extract (z / 3 % 11) (z / 3 % 11 + 1))) := by rw [hV]; simp
          have p2 : V.cell? ⟨wr.heap.size, 2, none⟩ = some (.int .i64 0) := by rw [hV]; simp
          have p3 : V.cell? ⟨wr.heap.size, 3, none⟩ = some (.int .i64 s.size) := by rw [hV]; simp
          have hbV : Below wr.heap.size wr V := by rw [hV]; exact (Below.refl _ wr).alloc (Nat.le_refl _) _
          have hVs : wr.heap.size < V.heap.size := by rw [hV]; simp <;> omega
          have hownV := own_below hown hbV
          have ag : (Value.slice ao6 k cap6).ownBlock ≠ some wr.heap.size := fun e => by have := hown.lt _ e; omega
          obtain ⟨i0, hi0, hj0, hj1, hj2⟩ := info_parts Try.info35
          have hbase : w.heap.size ≤ V.heap.size := by have := hbel.size; omega
          have hbVw : Below w.heap.size w V := hbel.trans (hbV.mono hbel.size)
          have HD : Hid (((⟨#[40, 41, 33, 38, 124, 42, 61, 58, 45, 64, 94]⟩ : ByteArray).extract (z / 3 % 11) (z / 3 % 11 + 1)) = ⟨(Wd.bytesOf z).toArray⟩) := mark_bytes z h0 h1
          have HW : Hid (wordCells (Wd.wordOf z s.size) = [.int .i64 3, .string ((⟨#[40, 41, 33, 38, 124, 42, 61, 58, 45, 64, 94]⟩ : ByteArray).extract (z / 3 % 11) (z / 3 % 11 + 1)), .int .i64 0, .int .i64 s.size]) := cells_mark z s.size h0 h1
          generalize ((⟨#[40, 41, 33, 38, 124, 42, 61, 58, 45, 64, 94]⟩ : ByteArray).extract (z / 3 % 11) (z / 3 % 11 + 1)) = d at *
          have hd3 : d.size ≤ 2 := by rw [HD.out]; exact (Wd.bytesOf_le z).2
          have ad1 : ∀ W, (Op.stringOp .add s d).run Try.prog W = .ok (.string (s ++ d)) W := fun W => run_string_add_sum W s d (by omega)
          have hsd : (s ++ d).size ≤ 2000 := by rw [ByteArray.size_append]; omega
          obtain ⟨sd, hsd0⟩ : ∃ sd, sd = s ++ d := ⟨_, rfl⟩
          rw [← hsd0] at hsd ad1
          have HSD : Hid (sd = s ++ d) := hsd0
          clear hsd0
          have ad2 : ∀ W x, x ≤ 3 → (Op.stringOp .add sd ((⟨#[32, 32, 32]⟩ : ByteArray).extract 0 x)).run Try.prog W = .ok (.string (sd ++ (⟨#[32, 32, 32]⟩ : ByteArray).extract 0 x)) W := fun W x _ => run_string_add_sum W _ _ (by simp; omega)
          have hwr : IntKind.u8.wrap (1 + (bl : Int).tmod 3) = (g : Int) := by rw [HG.out, Int.tmod_eq_emod_of_nonneg (by omega), gap_wrap bl]
          have hg0 : (0 : Int) ≤ (g : Int) := by omega
          have hg4 : (g : Int) ≤ 3 := by omega
          clear hV hc2 hb0 hb1
          go_region_held3 (fun w' => w'.cell? ⟨wr.heap.size, 0, none⟩ = some (.int .i64 3) ∧ w'.cell? ⟨wr.heap.size, 1, none⟩ = some (.string d) ∧ w'.cell? ⟨wr.heap.size, 2, none⟩ = some (.int .i64 0) ∧ w'.cell? ⟨wr.heap.size, 3, none⟩ = some (.int .i64 s.size))
            (first
              | go_keep
              | (go_split_ands
                 refine ⟨?_, ?_, ?_, ?_⟩
                 · (rw [hgrow.cell_far _ (by simp; omega) (Ne.symm ag)]; assumption)
                 · (rw [hgrow.cell_far _ (by simp; omega) (Ne.symm ag)]; assumption)
                 · (rw [hgrow.cell_far _ (by simp; omega) (Ne.symm ag)]; assumption)
                 · (rw [hgrow.cell_far _ (by simp; omega) (Ne.symm ag)]; assumption)))
            ((refine step_append_lies _ (by rfl) _ _ _ (by rfl) w.heap.size 35 i0 _ 4 40 Try.underlying25 hi0 hj0 hj1 hj2 rfl (by omega) _ _ _ (by rfl) ((hownV.alloc _).drew) ⟨V.heap.size, 0, none⟩ 1 1 [.int .i64 3, .string d, .int .i64 0, .int .i64 s.size] (by rfl) (by rfl) (World.news_of_block (cs := #[.int .i64 3, .string d, .int .i64 0, .int .i64 s.size]) (t := 35) (fr := (0, 0)) (heap_alloc_new V _)) (by simp [Value.oneCell']) (by omega) (by unfold maxLen; omega) (by omega) (by simp; omega) (V.heap.size + 1) (by simp) ?_; intro gg cap7 w2 hown1 hgrow hat hlt2))
          have R : w2.ownsRow w.heap.size 35 4 (.slice (some ⟨gg, 0, none⟩) (k + 1) cap7) (k + 1) (cellsOf (Wd.wordsFrom g 0 ((List.range (k + 1)).map zs))) := by
            rw [words_step, cellsOf_append, cellsOf_one, ← HZ.out, ← HS.out, HW.out]
            exact hown1
          have hbn : Below w.heap.size w w2 := ((hbVw.alloc hbase _).drew).grown hgrow (by simp; omega) (fun j hj => (hownV.lt j hj).1)
          clear hown1 hgrow hownV hown hbel hbV hbVw ad1 ad2 hi0 hj0 hj1 hj2 hwr p0 p1 p2 p3
          go_wp2
          go_roundw
          case rel => exact ⟨k + 1, by omega, by go_num, by rw [text_step g k zs (by omega), ← HS.out, ← HZ.out, ← HD.out, ← HSD.out], R, hbn⟩
          case measure => simp [intOf]; omega
    · have e : k = len := by omega
      subst e
      have hall := Wd.all_written g hg1.1 hg1.2 ((List.range k).map zs) (by simpa using hl)
      have hwl : (Wd.wordsFrom g 0 ((List.range k).map zs)).length = k := by rw [Wd.words_len]; simp
      have c1 := fun w => all_any (textB g ((List.range k).map zs)) w (by unfold maxLen; omega)
      rw [show (textB g ((List.range k).map zs)).data.toList = Wd.text g ((List.range k).map zs) from rfl, hall] at c1
      simp only [hwl] at c1
      generalize Wd.wordsFrom g 0 ((List.range k).map zs) = ws at *
      generalize textB g ((List.range k).map zs) = s at *
      clear hall hcell hb1
      go_wp2_with fail
      refine (c1 _).mono ?_
      rintro e w3 ⟨vx, rfl, hownx, hbx⟩
      obtain ⟨aox, capx, rfl⟩ := own_slice hownx
      have hown3 := own_below hown hbx
      have hbel3 := hbel.trans (hbx.mono hbel.size)
      clear c1 hown hbel
      go_wp2_with fail
      go_loopw [14] (fun i wq => ∃ q : Nat, q ≤ k ∧ i = .int .i64 q ∧ Below w3.heap.size w3 wq) (fun i _ => k - (intOf i).toNat)
      case atStart => exact ⟨0, by omega, rfl, Below.refl _ _⟩
      case round =>
        obtain ⟨q, hq, rfl, hbq⟩ := hrel
        by_cases hlq : q < k
        · obtain ⟨gx, cx, hvx, hgx1, hgx2, hcx⟩ := own_cells hownx (by omega)
          obtain ⟨gw, cw, hvw, hgw1, hgw2, hcw⟩ := own_cells hown3 (by omega)
          injection hvx with e1 e2 e3
          injection hvw with f1 f2 f3
          subst e1 e3 f1 f3
          obtain ⟨x, hx⟩ : ∃ x, ws[q]? = some x := ⟨ws[q]'(by omega), List.getElem?_eq_getElem (by omega)⟩
          have qa : ∀ j, j < 4 → wr.cell? ⟨gx, q * 4 + j, none⟩ = (wordCells x)[j]? := fun j hj => (hbq.cell hgx2).trans ((hcx _ (by omega)).trans (cellsOf_get ws q j x hx hj))
          have qb : ∀ j, j < 4 → wr.cell? ⟨gw, q * 4 + j, none⟩ = (wordCells x)[j]? := fun j hj => (hbq.cell hgw2).trans ((hcw _ (by omega)).trans (cellsOf_get ws q j x hx hj))
          have a0 : wr.cell? ⟨gx, q * 4, none⟩ = some (.int .i64 x.kind) := qa 0 (by omega)
          have a1 : wr.cell? ⟨gx, q * 4 + 1, none⟩ = some (.string ⟨x.text.toArray⟩) := qa 1 (by omega)
          have a2 : wr.cell? ⟨gx, q * 4 + 2, none⟩ = some (.int .i64 x.num) := qa 2 (by omega)
          have a3 : wr.cell? ⟨gx, q * 4 + 3, none⟩ = some (.int .i64 x.place) := qa 3 (by omega)
          have b0 : wr.cell? ⟨gw, q * 4, none⟩ = some (.int .i64 x.kind) := qb 0 (by omega)
          have b1 : wr.cell? ⟨gw, q * 4 + 1, none⟩ = some (.string ⟨x.text.toArray⟩) := qb 1 (by omega)
          have b2 : wr.cell? ⟨gw, q * 4 + 2, none⟩ = some (.int .i64 x.num) := qb 2 (by omega)
          have b3 : wr.cell? ⟨gw, q * 4 + 3, none⟩ = some (.int .i64 x.place) := qb 3 (by omega)
          have l1 : gx < wr.heap.size := Nat.lt_of_lt_of_le hgx2 hbq.size
          have l2 : gw < wr.heap.size := Nat.lt_of_lt_of_le hgw2 hbq.size
          clear qa qb hcx hcw hx
          go_wp2
          have hz3 := hbq.size
          go_region
          all_goals
            go_wp2
            go_roundw
            case rel => exact ⟨q + 1, by omega, by go_num, ((hbq.alloc hz3 _).alloc (by simp; omega) _).drew⟩
            case measure => simp [intOf]; omega
        · go_wp2
          go_ret
          exact ⟨rfl, hbel3.trans (hbq.mono hbel3.size)⟩

end Go.Proofs.Ytakfoljpehlmgaa
