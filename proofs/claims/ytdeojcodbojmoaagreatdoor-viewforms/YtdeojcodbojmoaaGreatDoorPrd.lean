/- pars.Parse of any text: whether it is a filter's. -/
import Derived.Test.YtdeojcodbojmoaaGreatDoorPra
namespace Go.Proofs.YtdeojcodbojmoaaGreatDoor
open Go.RowKit
set_option maxRecDepth 100000
set_option linter.unusedVariables false

set_option maxHeartbeats 4000000 in
theorem prs_deep (s : ByteArray) (w : World) (f : Ps.Ft) (he : ErrT w) (hs : s.size ≤ maxLen) (ha : (Wd.all s.data.toList).2.2 = true) (hx : Ps.P (Wd.all s.data.toList).1 .or 0 = some (f, (Wd.all s.data.toList).1.length)) (hd : 6 < f.deep) : Calls Tryz.prog 38 #[.string s] w (PS false w) := by
  have c1 := all_any s (w.alloc (.cells #[.int .i64 0, .int .i64 0, .int .i64 0, .int .i64 0, .string ⟨#[]⟩, .slice none 0 0] 53)) hs
  have hat0 : At w w.heap.size (w.alloc (.cells #[.int .i64 0, .int .i64 0, .int .i64 0, .int .i64 0, .string ⟨#[]⟩, .slice none 0 0] 53)) := At.start w _
  rw [ha] at c1
  have hgd := Ps.all_good s.data.toList
  clear ha
  generalize (Wd.all s.data.toList).2.1 = at_ at *
  generalize (Wd.all s.data.toList).1 = ws at *
  go_enter Tryz.func38, Tryz.ntmps38
  go_wp2_with fail
  refine c1.mono ?_
  rintro r w1 ⟨v, rfl, hown, hb1⟩
  clear c1
  have HA1 : Hid (At w w.heap.size w1) := hat0.step' (P := Any) trivial (fun _ _ _ => trivial) (Kept.of_below hb1)
  obtain ⟨⟨ao, cap, rfl⟩, hr⟩ := rdr_of_own hown hgd.1 (s.size : Int)
  have c2 := (reads_all w1.heap.size ws s.size hgd ws.length 0 (Nat.zero_le _) (by omega)).2.2 _ hr
  have sw1 : w.heap.size < w1.heap.size := HA1.out.s
  have HA2 : Hid (At w w.heap.size (w1.alloc (.cells #[.slice ao ws.length cap, .int .i64 s.size] 92))) := HA1.out.alloc _
  unfold maxLen at hs
  clear hb1 hown hat0 hr HA1
  obtain ⟨q, hq⟩ : ∃ q, q = ws.length := ⟨_, rfl⟩
  rw [← hq] at hx
  generalize hlw : ws.length = len at *
  rw [hx] at c2
  obtain ⟨wf1, wd1, wq1, _⟩ := Ps.P_some hgd hx (s := 0) rfl (Nat.zero_le _)
  clear hx
  go_wp2_with fail
  refine c2.mono ?_
  rintro r w2 ⟨o1, k1, l1, h1, t1, x1, n1, rfl, hl2, hr2, hk2⟩
  clear c2
  have HA3 : Hid (At w w.heap.size w2) := HA2.out.up sw1 hk2
  have s2 : w1.heap.size < w2.heap.size := by have := hk2.size; simp at this; omega
  have lyU : Lies Any (w2.alloc (.cells #[.int .i64 o1, .int .i64 k1, .int .i64 l1, .int .i64 h1, .string t1, .slice x1 n1 n1] 53)) f o1 k1 l1 h1 t1 x1 n1 := Lies.mono (fun _ _ _ => trivial) f (Lies.kept (P := Past (w1.alloc (.cells #[.slice ao len cap, .int .i64 s.size] 92)).heap.size) ((Kept.refl _ w2).alloc _) f hl2)
  have HA4 : Hid (At w w.heap.size (w2.alloc (.cells #[.int .i64 o1, .int .i64 k1, .int .i64 l1, .int .i64 h1, .string t1, .slice x1 n1 n1] 53))) := HA3.out.alloc _
  have hrU : Rdr (w2.alloc (.cells #[.int .i64 o1, .int .i64 k1, .int .i64 l1, .int .i64 h1, .string t1, .slice x1 n1 n1] 53)) w1.heap.size ws q s.size := hr2.alloc _
  obtain ⟨hrf, _, _, ao2, cap2, wb2, r0, _, _, r1, _⟩ := hr2
  clear hk2 hl2 HA2 HA3
  have e0 : ws.length - q = 0 := by omega
  rw [e0] at r0
  have c3 := mayP54 f wf1 (w2.alloc (.cells #[.int .i64 o1, .int .i64 k1, .int .i64 l1, .int .i64 h1, .string t1, .slice x1 n1 n1] 53)) o1 k1 l1 h1 t1 x1 n1 (he.below HA4.out.bel he.lt) lyU
  have e6 : decide (f.deep ≤ 6) = false := by simpa using hd
  rw [e6] at c3
  clear hq hrU lyU hgd e0 e6 hd
  go_wp2_with fail
  refine c3.mono ?_
  rintro r w3 ⟨rfl, hb3⟩
  clear c3
  have HA : Hid (At w w.heap.size w3) := HA4.out.step' (P := Any) trivial (fun _ _ _ => trivial) (Kept.of_below hb3)
  have y3 : ∀ i, w3.cell? ⟨w2.heap.size, i, none⟩ = (#[.int .i64 o1, .int .i64 k1, .int .i64 l1, .int .i64 h1, .string t1, .slice x1 n1 n1] : Array Value)[i]? := fun i => by rw [hb3.cell (p := ⟨w2.heap.size, i, none⟩) (by simp)]; simp
  have r3 : w3.cell? ⟨w1.heap.size, 1, none⟩ = some (.int .i64 s.size) := by rw [hb3.cell (p := ⟨w1.heap.size, 1, none⟩) (by simp; omega), World.cell?_alloc_past _ _ _ (hn := s2)]; exact r1
  have s3 : w2.heap.size < w3.heap.size := by have := hb3.size; simp at this; omega
  clear r0 r1 hb3 HA4 hrf
  have ne1 : w.heap.size ≠ w2.heap.size := by omega
  have ne2 : w2.heap.size ≠ w.heap.size := by omega
  go_wp2_with fail
  refine (within_one _ _ _ _).mono ?_
  rintro r w4 ⟨rfl, rfl⟩
  have z1 := HA.out.z
  have f1 := HA.out.f
  have s1 := HA.out.s
  go_wp2
  refine bodyPost_ret (v := .tuple #[.agg #[.int .i64 o1, .int .i64 k1, .int .i64 l1, .int .i64 h1, .string t1, .slice x1 n1 n1], .iface 124 (.agg #[.string ⟨#[100, 101, 112, 116, 104]⟩, .iface 69 (.agg #[.int .i64 s.size])])]) (by simp [results, Tryz.results38, go_sem, z1]) rfl (ps_no ((mis_zero _).one _) (bel_six HA.out.bel))

end Go.Proofs.YtdeojcodbojmoaaGreatDoor
