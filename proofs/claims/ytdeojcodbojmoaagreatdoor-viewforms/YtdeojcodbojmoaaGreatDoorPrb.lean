/- pars.Parse of any text: whether it is a filter's. -/
import Derived.Test.YtdeojcodbojmoaaGreatDoorPra
namespace Go.Proofs.YtdeojcodbojmoaaGreatDoor
open Go.RowKit
set_option maxRecDepth 100000
set_option linter.unusedVariables false

set_option maxHeartbeats 2000000 in
theorem prs_bad (s : ByteArray) (w : World) (hs : s.size ≤ maxLen) (ha : (Wd.all s.data.toList).2.2 = true) (hx : Ps.P (Wd.all s.data.toList).1 .or 0 = none) : Calls Tryz.prog 38 #[.string s] w (PS false w) := by
  have c1 := all_any s (w.alloc (.cells #[.int .i64 0, .int .i64 0, .int .i64 0, .int .i64 0, .string ⟨#[]⟩, .slice none 0 0] 53)) hs
  have hat0 : At w w.heap.size (w.alloc (.cells #[.int .i64 0, .int .i64 0, .int .i64 0, .int .i64 0, .string ⟨#[]⟩, .slice none 0 0] 53)) := At.start w _
  rw [ha] at c1
  have hgd := Ps.all_good s.data.toList
  clear ha
  generalize (Wd.all s.data.toList).2.1 = at_ at *
  generalize (Wd.all s.data.toList).1 = ws at *
  go_enter Tryz.func38, Tryz.ntmps38
  go_wp2_with fail
  refine c1.mono ?_
  rintro r w1 ⟨v, rfl, hown, hb1⟩
  clear c1
  have HA1 : Hid (At w w.heap.size w1) := hat0.step' (P := Any) trivial (fun _ _ _ => trivial) (Kept.of_below hb1)
  obtain ⟨⟨ao, cap, rfl⟩, hr⟩ := rdr_of_own hown hgd.1 (s.size : Int)
  have c2 := (reads_all w1.heap.size ws s.size hgd ws.length 0 (Nat.zero_le _) (by omega)).2.2 _ hr
  have sw1 : w.heap.size < w1.heap.size := HA1.out.s
  have HA2 : Hid (At w w.heap.size (w1.alloc (.cells #[.slice ao ws.length cap, .int .i64 s.size] 92))) := HA1.out.alloc _
  unfold maxLen at hs
  clear hb1 hown hat0 hr HA1
  generalize hlw : ws.length = len at *
  rw [hx] at c2
  clear hx
  go_wp2_with fail
  refine c2.mono ?_
  rintro r w2 ⟨o1, k1, l1, h1, t1, x1, n1, m, T, v, rfl, hm, hk2⟩
  clear c2
  have HA3 : Hid (At w w.heap.size w2) := HA2.out.up sw1 hk2
  have HM : Hid (Mis m (.iface T v)) := hm
  obtain ⟨U, hU⟩ : ∃ U, U = w2.alloc (.cells #[.int .i64 o1, .int .i64 k1, .int .i64 l1, .int .i64 h1, .string t1, .slice x1 n1 n1] 53) := ⟨_, rfl⟩
  have HU : Hid (U = w2.alloc (.cells #[.int .i64 o1, .int .i64 k1, .int .i64 l1, .int .i64 h1, .string t1, .slice x1 n1 n1] 53)) := hU
  have HA : Hid (At w w.heap.size U) := by rw [hU]; exact HA3.out.alloc _
  have y : ∀ i, U.cell? ⟨w2.heap.size, i, none⟩ = (#[.int .i64 o1, .int .i64 k1, .int .i64 l1, .int .i64 h1, .string t1, .slice x1 n1 n1] : Array Value)[i]? := fun i => by rw [hU]; simp
  have sU : w2.heap.size < U.heap.size := by rw [hU]; simp
  have s2 : w.heap.size < w2.heap.size := HA3.out.s
  have ne1 : w.heap.size ≠ w2.heap.size := by omega
  have ne2 : w2.heap.size ≠ w.heap.size := by omega
  clear hm hk2 HA2 hgd hU HA3
  simp only []
  iterate 15 (first | go_skip | go_guarded | go_step | go_upon | go_simp)
  rw [← HU.out]
  have z1 := HA.out.z
  have f1 := HA.out.f
  have s1 := HA.out.s
  clear HU
  go_wp2
  refine bodyPost_ret (v := .tuple #[.agg #[.int .i64 o1, .int .i64 k1, .int .i64 l1, .int .i64 h1, .string t1, .slice x1 n1 n1], .iface T v]) (by simp [results, Tryz.results38, go_sem, z1]) rfl (ps_no HM.out (bel_six HA.out.bel))

end Go.Proofs.YtdeojcodbojmoaaGreatDoor
