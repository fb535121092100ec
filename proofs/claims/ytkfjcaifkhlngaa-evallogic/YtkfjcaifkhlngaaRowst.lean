/- The orders in which a row of new blocks may be made: what they all come to. -/
import Derived.Test.YtkfjcaifkhlngaaBina
import Derived.Test.YtkfjcaifkhlngaaLets
namespace Go.Proofs.Ytkfjcaifkhlngaa
open Go.RowKit
set_option linter.unusedVariables false

def upd {α : Type} (f : Nat → α) (i : Nat) (x : α) : Nat → α := fun j => if j = i then x else f j
theorem upd_same {α : Type} (f : Nat → α) (i : Nat) (x : α) : upd f i x i = x := by unfold upd; simp
theorem upd_other {α : Type} (f : Nat → α) (i j : Nat) (x : α) (h : j ≠ i) : upd f i x j = f j := by unfold upd; rw [if_neg h]

section
variable (o1 k1 l1 h1 : Int) (t1 : ByteArray) (x1 : Option Addr) (n1 : Nat) (o2 k2 l2 h2 : Int) (t2 : ByteArray) (x2 : Option Addr) (n2 : Nat)

/-- What the new blocks hold: 0, 1, 2: rows of parts; 3, 4, 5: boxes, empty till they are filled (t). -/
def Con (t : Nat → Bool) (b : Nat → Nat) (w : World) : Nat → Prop
  | 0 => Six w (b 0) 0 o1 k1 l1 h1 t1 x1 n1 ∧ Six w (b 0) 6 o2 k2 l2 h2 t2 x2 n2
  | 1 => Six w (b 1) 0 o1 k1 l1 h1 t1 x1 n1 ∧ Six w (b 1) 6 o2 k2 l2 h2 t2 x2 n2
  | 2 => Six w (b 2) 0 o1 k1 l1 h1 t1 x1 n1
  | 3 => (∀ o, w.frozen? ⟨b 3, o, none⟩ = false) ∧ ∃ o k l h s x n, Six w (b 3) 0 o k l h s x n ∧ (t 0 = true → o = 5 ∧ k = 0 ∧ l = 0 ∧ h = 0 ∧ s = ⟨#[]⟩ ∧ x = some ⟨b 0, 0, none⟩ ∧ n = 2)
  | 4 => (∀ o, w.frozen? ⟨b 4, o, none⟩ = false) ∧ ∃ o k l h s x n, Six w (b 4) 0 o k l h s x n ∧ (t 1 = true → o = 6 ∧ k = 0 ∧ l = 0 ∧ h = 0 ∧ s = ⟨#[]⟩ ∧ x = some ⟨b 1, 0, none⟩ ∧ n = 2)
  | 5 => (∀ o, w.frozen? ⟨b 5, o, none⟩ = false) ∧ ∃ o k l h s x n, Six w (b 5) 0 o k l h s x n ∧ (t 2 = true → o = 7 ∧ k = 0 ∧ l = 0 ∧ h = 0 ∧ s = ⟨#[]⟩ ∧ x = some ⟨b 2, 0, none⟩ ∧ n = 1)
  | _ => True

structure WS (w0 : World) (d t : Nat → Bool) (b : Nat → Nat) (w : World) : Prop where
  bel : Below w0.heap.size w0 w
  blk : ∀ i, d i = true → w0.heap.size ≤ b i ∧ b i < w.heap.size
  dis : ∀ i j, d i = true → d j = true → i ≠ j → b i ≠ b j
  con : ∀ i, d i = true → Con o1 k1 l1 h1 t1 x1 n1 o2 k2 l2 h2 t2 x2 n2 t b w i
  imp : ∀ i, t i = true → d i = true

variable {o1 k1 l1 h1 t1 x1 n1 o2 k2 l2 h2 t2 x2 n2}

/-- Contents stay where the blocks stay. -/
theorem Con.of {t t' : Nat → Bool} {b b' : Nat → Nat} {w w' : World} (i : Nat) (h : Con o1 k1 l1 h1 t1 x1 n1 o2 k2 l2 h2 t2 x2 n2 t b w i) (hb : b' i = b i) (hc : ∀ o, w'.cell? ⟨b i, o, none⟩ = w.cell? ⟨b i, o, none⟩) (hf : ∀ o, w'.frozen? ⟨b i, o, none⟩ = w.frozen? ⟨b i, o, none⟩)
    (ht : ∀ k, i = k + 3 → t' k = true → t k = true ∧ b' k = b k) : Con o1 k1 l1 h1 t1 x1 n1 o2 k2 l2 h2 t2 x2 n2 t' b' w' i := by
  match i, h, hb, hc, hf, ht with
  | 0, h, hb, hc, hf, ht => exact ⟨by rw [hb]; exact h.1.of hc, by rw [hb]; exact h.2.of hc⟩
  | 1, h, hb, hc, hf, ht => exact ⟨by rw [hb]; exact h.1.of hc, by rw [hb]; exact h.2.of hc⟩
  | 2, h, hb, hc, hf, ht => show Six _ _ _ _ _ _ _ _ _ _; rw [hb]; exact Six.of h hc
  | 3, h, hb, hc, hf, ht =>
    obtain ⟨g, o, k, l, hh, s, x, n, six, e⟩ := h
    refine ⟨fun o => by rw [hb, hf]; exact g o, o, k, l, hh, s, x, n, by rw [hb]; exact six.of hc, fun q => ?_⟩
    obtain ⟨q1, q2⟩ := ht 0 rfl q
    rw [q2]; exact e q1
  | 4, h, hb, hc, hf, ht =>
    obtain ⟨g, o, k, l, hh, s, x, n, six, e⟩ := h
    refine ⟨fun o => by rw [hb, hf]; exact g o, o, k, l, hh, s, x, n, by rw [hb]; exact six.of hc, fun q => ?_⟩
    obtain ⟨q1, q2⟩ := ht 1 rfl q
    rw [q2]; exact e q1
  | 5, h, hb, hc, hf, ht =>
    obtain ⟨g, o, k, l, hh, s, x, n, six, e⟩ := h
    refine ⟨fun o => by rw [hb, hf]; exact g o, o, k, l, hh, s, x, n, by rw [hb]; exact six.of hc, fun q => ?_⟩
    obtain ⟨q1, q2⟩ := ht 2 rfl q
    rw [q2]; exact e q1
  | n + 6, h, hb, hc, hf, ht => trivial

theorem WS.alloc {w0 : World} {d t : Nat → Bool} {b : Nat → Nat} {w : World} (h : WS o1 k1 l1 h1 t1 x1 n1 o2 k2 l2 h2 t2 x2 n2 w0 d t b w) (i : Nat) (hd : d i = false) (hi3 : ∀ k, i = k + 3 → t k = false) (o : Obj) (hc : Con o1 k1 l1 h1 t1 x1 n1 o2 k2 l2 h2 t2 x2 n2 t (upd b i w.heap.size) (w.alloc o) i) :
    WS o1 k1 l1 h1 t1 x1 n1 o2 k2 l2 h2 t2 x2 n2 w0 (upd d i true) t (upd b i w.heap.size) (w.alloc o) := by
  have ss := h.bel.size
  refine ⟨h.bel.alloc ss o, fun j hj => ?_, fun j k hj hk hne => ?_, fun j hj => ?_, fun j hj => ?_⟩
  · by_cases e : j = i
    · subst e; rw [upd_same]; simp; omega
    · rw [upd_other _ _ _ _ e] at hj ⊢
      have := h.blk j hj
      simp; omega
  · by_cases e : j = i
    · subst e
      have hk' : k ≠ j := fun x => hne x.symm
      rw [upd_other _ _ _ _ hk'] at hk
      rw [upd_same, upd_other _ _ _ _ hk']
      have := h.blk k hk
      omega
    · rw [upd_other _ _ _ _ e] at hj ⊢
      by_cases e2 : k = i
      · subst e2
        rw [upd_same]
        have := h.blk j hj
        omega
      · rw [upd_other _ _ _ _ e2] at hk ⊢
        exact h.dis j k hj hk hne
  · by_cases e : j = i
    · subst e; exact hc
    · rw [upd_other _ _ _ _ e] at hj
      have hb := (h.blk j hj).2
      refine Con.of j (h.con j hj) (upd_other _ _ _ _ e) (fun o => World.cell?_alloc_past _ _ _ (hn := hb)) (fun o => World.frozen?_alloc_past _ _ _ (hn := hb)) (fun k hk q => ⟨q, upd_other _ _ _ _ (fun x => ?_)⟩)
      have := h.imp k q
      rw [x, hd] at this
      cases this
  · by_cases e : j = i
    · subst e; exact upd_same _ _ _
    · rw [upd_other _ _ _ _ e]; exact h.imp j hj

theorem WS.store0 {w0 : World} {d t : Nat → Bool} {b : Nat → Nat} {w : World} (h : WS o1 k1 l1 h1 t1 x1 n1 o2 k2 l2 h2 t2 x2 n2 w0 d t b w) (hk : d 0 = true) (hb : d 3 = true) :
    WS o1 k1 l1 h1 t1 x1 n1 o2 k2 l2 h2 t2 x2 n2 w0 d (upd t 0 true) b ((((((w.setCell ⟨b 3, 0, none⟩ (.int .i64 5)).setCell ⟨b 3, 1, none⟩ (.int .i64 0)).setCell ⟨b 3, 2, none⟩ (.int .i64 0)).setCell ⟨b 3, 3, none⟩ (.int .i64 0)).setCell ⟨b 3, 4, none⟩ (.string ⟨#[]⟩)).setCell ⟨b 3, 5, none⟩ (.slice (some ⟨b 0, 0, none⟩) 2 2)) := by
  have hp := h.blk 3 hb
  have hsz : ((((((w.setCell ⟨b 3, 0, none⟩ (.int .i64 5)).setCell ⟨b 3, 1, none⟩ (.int .i64 0)).setCell ⟨b 3, 2, none⟩ (.int .i64 0)).setCell ⟨b 3, 3, none⟩ (.int .i64 0)).setCell ⟨b 3, 4, none⟩ (.string ⟨#[]⟩)).setCell ⟨b 3, 5, none⟩ (.slice (some ⟨b 0, 0, none⟩) 2 2)).heap.size = w.heap.size := by simp [World.setCell]
  have hoth : ∀ j, b j ≠ b 3 → ∀ o, ((((((w.setCell ⟨b 3, 0, none⟩ (.int .i64 5)).setCell ⟨b 3, 1, none⟩ (.int .i64 0)).setCell ⟨b 3, 2, none⟩ (.int .i64 0)).setCell ⟨b 3, 3, none⟩ (.int .i64 0)).setCell ⟨b 3, 4, none⟩ (.string ⟨#[]⟩)).setCell ⟨b 3, 5, none⟩ (.slice (some ⟨b 0, 0, none⟩) 2 2)).cell? ⟨b j, o, none⟩ = w.cell? ⟨b j, o, none⟩ := fun j hj o => by
    repeat rw [World.cell?_setCell_other _ _ _ _ (fun e => hj (congrArg Addr.block e).symm)]
  refine ⟨?_, fun j hj => by rw [hsz]; exact h.blk j hj, h.dis, fun j hj => ?_, fun j hj => ?_⟩
  · repeat (refine Below.setCell ?_ (by simp; omega) _)
    exact h.bel
  · by_cases e : j = 3
    · subst e
      obtain ⟨g, o, k', l, hh, s, x, n, six, _⟩ := h.con 3 hb
      exact ⟨fun o => by simpa using g o, 5, 0, 0, 0, ⟨#[]⟩, some ⟨b 0, 0, none⟩, 2, six_stored six _ _ _ _ _ _ _, fun _ => ⟨rfl, rfl, rfl, rfl, rfl, rfl, rfl⟩⟩
    · refine Con.of j (h.con j hj) rfl (hoth j (h.dis j 3 hj hb e)) (fun o => by simp) (fun m hm q => ⟨?_, rfl⟩)
      have hmk : m ≠ 0 := fun x => e (by omega)
      rwa [upd_other _ _ _ _ hmk] at q
  · by_cases e : j = 0
    · subst e; exact hk
    · rw [upd_other _ _ _ _ e] at hj; exact h.imp j hj

theorem WS.store1 {w0 : World} {d t : Nat → Bool} {b : Nat → Nat} {w : World} (h : WS o1 k1 l1 h1 t1 x1 n1 o2 k2 l2 h2 t2 x2 n2 w0 d t b w) (hk : d 1 = true) (hb : d 4 = true) :
    WS o1 k1 l1 h1 t1 x1 n1 o2 k2 l2 h2 t2 x2 n2 w0 d (upd t 1 true) b ((((((w.setCell ⟨b 4, 0, none⟩ (.int .i64 6)).setCell ⟨b 4, 1, none⟩ (.int .i64 0)).setCell ⟨b 4, 2, none⟩ (.int .i64 0)).setCell ⟨b 4, 3, none⟩ (.int .i64 0)).setCell ⟨b 4, 4, none⟩ (.string ⟨#[]⟩)).setCell ⟨b 4, 5, none⟩ (.slice (some ⟨b 1, 0, none⟩) 2 2)) := by
  have hp := h.blk 4 hb
  have hsz : ((((((w.setCell ⟨b 4, 0, none⟩ (.int .i64 6)).setCell ⟨b 4, 1, none⟩ (.int .i64 0)).setCell ⟨b 4, 2, none⟩ (.int .i64 0)).setCell ⟨b 4, 3, none⟩ (.int .i64 0)).setCell ⟨b 4, 4, none⟩ (.string ⟨#[]⟩)).setCell ⟨b 4, 5, none⟩ (.slice (some ⟨b 1, 0, none⟩) 2 2)).heap.size = w.heap.size := by simp [World.setCell]
  have hoth : ∀ j, b j ≠ b 4 → ∀ o, ((((((w.setCell ⟨b 4, 0, none⟩ (.int .i64 6)).setCell ⟨b 4, 1, none⟩ (.int .i64 0)).setCell ⟨b 4, 2, none⟩ (.int .i64 0)).setCell ⟨b 4, 3, none⟩ (.int .i64 0)).setCell ⟨b 4, 4, none⟩ (.string ⟨#[]⟩)).setCell ⟨b 4, 5, none⟩ (.slice (some ⟨b 1, 0, none⟩) 2 2)).cell? ⟨b j, o, none⟩ = w.cell? ⟨b j, o, none⟩ := fun j hj o => by
    repeat rw [World.cell?_setCell_other _ _ _ _ (fun e => hj (congrArg Addr.block e).symm)]
  refine ⟨?_, fun j hj => by rw [hsz]; exact h.blk j hj, h.dis, fun j hj => ?_, fun j hj => ?_⟩
  · repeat (refine Below.setCell ?_ (by simp; omega) _)
    exact h.bel
  · by_cases e : j = 4
    · subst e
      obtain ⟨g, o, k', l, hh, s, x, n, six, _⟩ := h.con 4 hb
      exact ⟨fun o => by simpa using g o, 6, 0, 0, 0, ⟨#[]⟩, some ⟨b 1, 0, none⟩, 2, six_stored six _ _ _ _ _ _ _, fun _ => ⟨rfl, rfl, rfl, rfl, rfl, rfl, rfl⟩⟩
    · refine Con.of j (h.con j hj) rfl (hoth j (h.dis j 4 hj hb e)) (fun o => by simp) (fun m hm q => ⟨?_, rfl⟩)
      have hmk : m ≠ 1 := fun x => e (by omega)
      rwa [upd_other _ _ _ _ hmk] at q
  · by_cases e : j = 1
    · subst e; exact hk
    · rw [upd_other _ _ _ _ e] at hj; exact h.imp j hj

theorem WS.store2 {w0 : World} {d t : Nat → Bool} {b : Nat → Nat} {w : World} (h : WS o1 k1 l1 h1 t1 x1 n1 o2 k2 l2 h2 t2 x2 n2 w0 d t b w) (hk : d 2 = true) (hb : d 5 = true) :
    WS o1 k1 l1 h1 t1 x1 n1 o2 k2 l2 h2 t2 x2 n2 w0 d (upd t 2 true) b ((((((w.setCell ⟨b 5, 0, none⟩ (.int .i64 7)).setCell ⟨b 5, 1, none⟩ (.int .i64 0)).setCell ⟨b 5, 2, none⟩ (.int .i64 0)).setCell ⟨b 5, 3, none⟩ (.int .i64 0)).setCell ⟨b 5, 4, none⟩ (.string ⟨#[]⟩)).setCell ⟨b 5, 5, none⟩ (.slice (some ⟨b 2, 0, none⟩) 1 1)) := by
  have hp := h.blk 5 hb
  have hsz : ((((((w.setCell ⟨b 5, 0, none⟩ (.int .i64 7)).setCell ⟨b 5, 1, none⟩ (.int .i64 0)).setCell ⟨b 5, 2, none⟩ (.int .i64 0)).setCell ⟨b 5, 3, none⟩ (.int .i64 0)).setCell ⟨b 5, 4, none⟩ (.string ⟨#[]⟩)).setCell ⟨b 5, 5, none⟩ (.slice (some ⟨b 2, 0, none⟩) 1 1)).heap.size = w.heap.size := by simp [World.setCell]
  have hoth : ∀ j, b j ≠ b 5 → ∀ o, ((((((w.setCell ⟨b 5, 0, none⟩ (.int .i64 7)).setCell ⟨b 5, 1, none⟩ (.int .i64 0)).setCell ⟨b 5, 2, none⟩ (.int .i64 0)).setCell ⟨b 5, 3, none⟩ (.int .i64 0)).setCell ⟨b 5, 4, none⟩ (.string ⟨#[]⟩)).setCell ⟨b 5, 5, none⟩ (.slice (some ⟨b 2, 0, none⟩) 1 1)).cell? ⟨b j, o, none⟩ = w.cell? ⟨b j, o, none⟩ := fun j hj o => by
    repeat rw [World.cell?_setCell_other _ _ _ _ (fun e => hj (congrArg Addr.block e).symm)]
  refine ⟨?_, fun j hj => by rw [hsz]; exact h.blk j hj, h.dis, fun j hj => ?_, fun j hj => ?_⟩
  · repeat (refine Below.setCell ?_ (by simp; omega) _)
    exact h.bel
  · by_cases e : j = 5
    · subst e
      obtain ⟨g, o, k', l, hh, s, x, n, six, _⟩ := h.con 5 hb
      exact ⟨fun o => by simpa using g o, 7, 0, 0, 0, ⟨#[]⟩, some ⟨b 2, 0, none⟩, 1, six_stored six _ _ _ _ _ _ _, fun _ => ⟨rfl, rfl, rfl, rfl, rfl, rfl, rfl⟩⟩
    · refine Con.of j (h.con j hj) rfl (hoth j (h.dis j 5 hj hb e)) (fun o => by simp) (fun m hm q => ⟨?_, rfl⟩)
      have hmk : m ≠ 2 := fun x => e (by omega)
      rwa [upd_other _ _ _ _ hmk] at q
  · by_cases e : j = 2
    · subst e; exact hk
    · rw [upd_other _ _ _ _ e] at hj; exact h.imp j hj

end
end Go.Proofs.Ytkfjcaifkhlngaa
