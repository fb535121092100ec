/- word.All: the words of a text. -/
import Derived.Test.YtdeojcodbojmoaaGreatDoorFirst
import Derived.Test.YtdeojcodbojmoaaGreatDoorRowsOf
namespace Go.Proofs.YtdeojcodbojmoaaGreatDoor
open Go.RowKit
set_option maxRecDepth 100000

theorem Tryz.info120 : (Tryz.prog.info? 120).map (fun i => (i.zero, i.size, i.bytes)) = some (some (.agg #[.int .i64 0, .string ⟨#[]⟩, .int .i64 0, .int .i64 0]), 4, 40) := by kernel_rfl

set_option maxHeartbeats 400000 in
theorem all_great (s : ByteArray) (w : World) (h : 80 < s.size) (hs : s.size ≤ maxLen) :
    Calls Tryz.prog 50 #[.string s] w fun e w' => e = .returned (.tuple #[.slice none 0 0, .int .i64 0, .bool false]) ∧ w' = w := by
  unfold maxLen at hs
  go_enter Tryz.func50, Tryz.ntmps50
  go_wp2
  go_ret3
  exact ⟨rfl, rfl⟩

set_option maxHeartbeats 1000000 in
theorem all_small (s : ByteArray) (w : World) (h : s.size ≤ 80) :
    Calls Tryz.prog 50 #[.string s] w fun e w' => ∃ v ws n ok, Wd.rest s.data.toList 0 [] = (ws, n, ok) ∧ e = .returned (.tuple #[v, .int .i64 n, .bool ok]) ∧ w'.ownsRow w.heap.size 120 4 v ws.length (cellsOf ws) ∧ Below w.heap.size w w' := by
  go_enter Tryz.func50, Tryz.ntmps50
  go_wp2
  go_loopw [2, 3] (fun v i wr => ∃ (p : Nat) (acc : List Wd.Word), p ≤ s.size ∧ acc.length ≤ p ∧ i = .int .i64 p ∧ Wd.rest s.data.toList p acc = Wd.rest s.data.toList 0 [] ∧ wr.ownsRow w.heap.size 120 4 v acc.length (cellsOf acc) ∧ Below w.heap.size w wr) (fun _ i _ => s.size - (intOf i).toNat)
  case atStart => exact ⟨0, [], by omega, by simp, rfl, rfl, World.ownsRow_nil _ _ _ _, Below.refl _ _⟩
  case round =>
    obtain ⟨p, acc, hp, hacc, rfl, hrest, hown, hbel⟩ := hrel
    have HR : Hid (Wd.rest s.data.toList p acc = Wd.rest s.data.toList 0 []) := hrest
    clear hrest
    obtain ⟨ao, cap, rfl⟩ := own_slice hown
    by_cases hlt : p < s.size
    · obtain ⟨r, hd, hx⟩ := drop_at s p hlt
      have c1 := fun w => first_any (s.extract p s.size) w (by simp; unfold maxLen; omega) (by simp; omega)
      have hsz := Wd.first_size (s.extract p s.size).data.toList
      have hstep := Wd.rest_step s.data.toList p acc _ _ hd
      have hxl : (s.extract p s.size).data.toList.length = s.size - p := by simp
      rw [hx] at c1 hsz hxl
      rw [hxl] at hsz
      clear hxl
      have HS : Hid _ := hstep
      clear hstep hd hx
      generalize Wd.first (s[p] :: r) = o at *
      by_cases hc : s[p] = 32
      · have hb : ((s[p].toNat : Int) == 32) = true := by rw [hc]; rfl
        rw [if_pos hc] at HS
        clear hc
        go_wp2_with fail
        refine (c1 _).mono ?_
        rintro e w1 ⟨rfl, hb1⟩
        unfold oneV
        clear c1
        go_wp2
        go_roundw
        case rel =>
          have hb2 := hbel.size
          have hb3 := hb1.size
          exact ⟨p + 1, acc, by omega, by omega, by go_num, by rw [← HS.out]; exact HR.out, (own_below hown hb1).alloc _, (hbel.trans (hb1.mono hb2)).alloc (by omega) _⟩
        case measure => simp [intOf]; omega
      · have hb : ((s[p].toNat : Int) == 32) = false := beq_eq_false_iff_ne.2 (fun x => hc (UInt8.toNat_inj.1 (by simpa using Int.ofNat_inj.1 x)))
        rw [if_neg hc] at HS
        clear hc
        by_cases h0 : o.size = 0
        · have hz : ((o.size : Int) == 0) = true := by rw [h0]; rfl
          rw [if_pos (.inl h0)] at HS
          clear h0
          go_wp2_with fail
          refine (c1 _).mono ?_
          rintro e w1 ⟨rfl, hb1⟩
          unfold oneV
          clear c1
          go_wp2
          go_ret3
          have hb2 := hbel.size
          have hb3 := hb1.size
          exact ⟨_, [], p, false, by rw [← HS.out]; exact HR.out.symm, rfl, World.ownsRow_nil _ _ _ _, (hbel.trans (hb1.mono hb2)).alloc (by omega) _⟩
        · have hz : ((o.size : Int) == 0) = false := beq_eq_false_iff_ne.2 (by omega)
          by_cases h60 : acc.length = 60
          · have hy : ((acc.length : Int) == 60) = true := by rw [h60]; rfl
            rw [if_pos (.inr h60)] at HS
            clear h60 h0
            go_wp2_with fail
            refine (c1 _).mono ?_
            rintro e w1 ⟨rfl, hb1⟩
            unfold oneV
            clear c1
            go_wp2
            go_ret3
            have hb2 := hbel.size
            have hb3 := hb1.size
            exact ⟨_, [], p, false, by rw [← HS.out]; exact HR.out.symm, rfl, World.ownsRow_nil _ _ _ _, (hbel.trans (hb1.mono hb2)).alloc (by omega) _⟩
          · have hy : ((acc.length : Int) == 60) = false := beq_eq_false_iff_ne.2 (by omega)
            rw [if_neg (by omega)] at HS
            clear h60
            obtain ⟨i0, hi, hz0, hz1, hz2⟩ := info_parts Tryz.info120
            have hpos : 0 < o.size := by omega
            have hle : p + o.size ≤ s.size := by omega
            clear hsz h0
            go_wp2_with fail
            refine (c1 _).mono ?_
            rintro e w1 ⟨rfl, hb1⟩
            unfold oneV
            clear c1
            have hb2 := hbel.size
            have hb3 := hb1.size
            have hown1 := own_below hown hb1
            go_wp2_with (at_builtin; refine wpList_append_own _ rfl _ _ 87 rfl w.heap.size 120 i0 _ 4 40 Tryz.underlying87 hi hz0 hz1 hz2 rfl (by decide) _ _ _ rfl ((hown1.alloc _).alloc _) ⟨w1.heap.size + 1, 0, none⟩ 1 1 [.int .i64 o.kind, .string ⟨o.text.toArray⟩, .int .i64 o.num, .int .i64 p] rfl rfl ?c1 ?c2 ?c3 ?c4 ?c5 ?_)
            case c1 =>
              intro j u hj
              match j, hj with
              | 0, hj => simp at hj; subst hj; simp [Addr.add]
              | 1, hj => simp at hj; subst hj; simp [Addr.add]
              | 2, hj => simp at hj; subst hj; simp [Addr.add]
              | 3, hj => simp at hj; subst hj; simp [Addr.add]
            case c2 => intro u hu; simp at hu; rcases hu with rfl | rfl | rfl | rfl <;> rfl
            case c3 => unfold maxLen; omega
            case c4 => omega
            case c5 => simp; omega
            intro v' w2 hown' hgrow _
            have R : w2.ownsRow w.heap.size 120 4 v' (acc ++ [(⟨o.kind, o.text, o.num, p⟩ : Wd.Word)]).length (cellsOf (acc ++ [(⟨o.kind, o.text, o.num, p⟩ : Wd.Word)])) ∧ Below w.heap.size w w2 :=
              ⟨by rw [cellsOf_append, cellsOf_one, List.length_append]; exact hown', (((hbel.trans (hb1.mono hb2)).alloc (by omega) _).alloc (by simp; omega) _).grown hgrow (by simp; omega) (fun k hk => (hown1.lt k hk).1)⟩
            clear hown' hgrow hown1 hown hb1 hbel hi hz0 hz1 hz2
            go_wp2
            go_roundw
            case rel => exact ⟨p + o.size, _, hle, by simp; omega, by go_num, by rw [← HS.out]; exact HR.out, R.1, R.2⟩
            case measure => simp [intOf]; omega
    · go_wp2
      go_ret3
      exact ⟨_, acc, 0, true, by rw [← HR.out]; exact Wd.rest_end _ _ _ (by simp; omega), rfl, hown, hbel⟩

/-- word.All tells what Wd.all tells, its words in memory of its own; nothing that was there has turned. -/
theorem all_any (s : ByteArray) (w : World) (hs : s.size ≤ maxLen) :
    Calls Tryz.prog 50 #[.string s] w fun e w' => ∃ v, e = .returned (.tuple #[v, .int .i64 (Wd.all s.data.toList).2.1, .bool (Wd.all s.data.toList).2.2]) ∧ w'.ownsRow w.heap.size 120 4 v (Wd.all s.data.toList).1.length (cellsOf (Wd.all s.data.toList).1) ∧ Below w.heap.size w w' := by
  by_cases h : 80 < s.size
  · have e : Wd.all s.data.toList = ([], 0, false) := by unfold Wd.all; rw [if_pos (by simpa using h)]
    rw [e]
    refine (all_great s w h hs).mono ?_
    rintro e w' ⟨rfl, rfl⟩
    exact ⟨_, rfl, World.ownsRow_nil _ _ _ _, Below.refl _ _⟩
  · rw [Wd.all_small _ (by simpa using h)]
    refine (all_small s w (by omega)).mono ?_
    rintro e w' ⟨v, ws, n, ok, hr, rfl, hown, hbel⟩
    rw [hr]
    exact ⟨v, rfl, hown, hbel⟩

end Go.Proofs.YtdeojcodbojmoaaGreatDoor
