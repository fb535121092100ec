/- Versions: how they lie in memory, which may be, their parts as numbers. -/
import Derived.Test.YtopkeembbopbmaaDoorStm
import Derived.Test.YtopkeembbopbmaaDoorNum
import Derived.Test.YtopkeembbopbmaaDoorRvp
namespace Go.Proofs.YtopkeembbopbmaaDoor
open Go.RowKit
set_option maxRecDepth 100000
set_option linter.unusedVariables false

/-- A version's fields. -/
structure Vn where
  it : Int
  L : Int
  R : Int
  N : Int
  dead : Bool
  ao : Option Addr
  len : Nat
  cap : Nat
  tag : ByteArray
  body : ByteArray

def Vn.val (v : Vn) : Value := .agg #[.int .i64 v.it, .int .i64 v.L, .int .i64 v.R, .int .i64 v.N, .bool v.dead, .slice v.ao v.len v.cap, .string v.tag, .string v.body]

/-- A row reads as these attributes. -/
def At (w : World) (ao : Option Addr) (n : Nat) (al : List (Int × Int)) : Prop :=
  n = al.length ∧ n ≤ 1000 ∧ (0 < n → ∃ b off, ao = some ⟨b, off, none⟩ ∧ ∀ j, j < n → w.cell? ⟨b, off + j * 2, none⟩ = some (.int .i64 (al.getD j (0, 0)).1) ∧ w.cell? ⟨b, off + j * 2 + 1, none⟩ = some (.int .i64 (al.getD j (0, 0)).2))

theorem At.kept {w w' : World} {ao : Option Addr} {n : Nat} {al : List (Int × Int)} (h : At w ao n al) (hb : Below w.heap.size w w') : At w' ao n al := by
  obtain ⟨h1, h2, h3⟩ := h
  refine ⟨h1, h2, fun h0 => ?_⟩
  obtain ⟨b, off, e, hc⟩ := h3 h0
  have hlt : b < w.heap.size := World.block_lt_of_cell? w ⟨b, off + 0 * 2, none⟩ (hc 0 h0).1
  exact ⟨b, off, e, fun j hj => ⟨(hb.cell (p := ⟨b, off + j * 2, none⟩) hlt).trans (hc j hj).1, (hb.cell (p := ⟨b, off + j * 2 + 1, none⟩) hlt).trans (hc j hj).2⟩⟩

theorem At.none (w : World) (ao : Option Addr) : At w ao 0 [] := ⟨rfl, by omega, fun h => by omega⟩

theorem At.of {P : Nat → Prop} {w w' : World} {ao : Option Addr} {n : Nat} {al : List (Int × Int)} (h : At w ao n al) (hk : Kept P w w') (hp : ∀ b off, 0 < n → ao = some ⟨b, off, .none⟩ → P b) : At w' ao n al := by
  obtain ⟨h1, h2, h3⟩ := h
  refine ⟨h1, h2, fun h0 => ?_⟩
  obtain ⟨b, off, e, hc⟩ := h3 h0
  have hlt : b < w.heap.size := World.block_lt_of_cell? w ⟨b, off + 0 * 2, .none⟩ (hc 0 h0).1
  exact ⟨b, off, e, fun j hj => ⟨(hk.cell hlt (hp b off h0 e)).trans (hc j hj).1, (hk.cell hlt (hp b off h0 e)).trans (hc j hj).2⟩⟩

/-- A version's attributes lie so. -/
def Has (w : World) (v : Vn) (al : List (Int × Int)) : Prop := At w v.ao v.len al

/-- Keys rise, and are within their bounds, as values are. -/
def atOk : Int → List (Int × Int) → Bool
  | _, [] => true
  | k, p :: r => (decide (k ≤ p.1) && decide (p.1 ≤ 3)) && ((decide (0 ≤ p.2) && decide (p.2 ≤ 99)) && atOk (p.1 + 1) r)
def atsOk (al : List (Int × Int)) : Bool := decide (al.length ≤ 3) && atOk 0 al

def low1 (x : Nat) : Bool := decide (97 ≤ x) && decide (x ≤ 122)
def tagOk (s : ByteArray) : Bool := decide (s.size ≤ 6) && (bl s).all low1
def bodyOk (dead : Bool) (s : ByteArray) : Bool := (!dead || decide (s.size = 0)) && decide (s.size ≤ 12)

/-- Which versions may be. -/
def mayI (v : Vn) (al : List (Int × Int)) : Bool := (decide (1 ≤ v.it) && decide (v.it ≤ 6)) && (stOk v.L v.R v.N && (atsOk al && (tagOk v.tag && bodyOk v.dead v.body)))

theorem bl_drop (s : ByteArray) (k : Nat) (h : k < s.size) : (bl s).drop k = s[k].toNat :: (bl s).drop (k + 1) := by
  have hk : k < (bl s).length := by rw [bl_len]; exact h
  rw [List.drop_eq_getElem_cons hk]
  congr 1
  simp [bl, ByteArray.getElem_eq_getElem_data]

theorem at_drop (al : List (Int × Int)) (k : Nat) (h : k < al.length) : al.drop k = al.getD k (0, 0) :: al.drop (k + 1) := by
  rw [List.drop_eq_getElem_cons h, List.getD_eq_getElem?_getD, List.getElem?_eq_getElem h]; rfl

/-- A number for a truth. -/
def b2n (b : Bool) : Nat := if b then 1 else 0

/-- A version's parts as numbers. -/
def vp (v : Vn) (al : List (Int × Int)) : Vp := ⟨v.it.toNat, v.L.toNat, v.R.toNat, v.N.toNat, b2n v.dead, al.map (fun p => (p.1.toNat, p.2.toNat)), bl v.tag, bl v.body⟩

/-- Which parts may be a version's. -/
def mayN (p : Vp) : Bool := (decide (1 ≤ p.i) && decide (p.i ≤ 6)) && (stOk p.l p.r p.n && (atsOk (p.a.map (fun x => ((x.1 : Int), (x.2 : Int)))) && ((decide (p.t.length ≤ 6) && p.t.all low1) && ((decide (p.d = 0) || (decide (p.d = 1) && decide (p.b.length = 0))) && decide (p.b.length ≤ 12)))))

theorem atOk_nat : ∀ (al : List (Int × Int)) (k : Int), 0 ≤ k → atOk k al = true → ∀ p ∈ al, 0 ≤ p.1 ∧ p.1 ≤ 3 ∧ 0 ≤ p.2 ∧ p.2 ≤ 99
  | [], _, _, _ => fun p hp => by cases hp
  | q :: r, k, hk, h => by
    unfold atOk at h
    simp only [Bool.and_eq_true, decide_eq_true_eq] at h
    obtain ⟨⟨a1, a2⟩, ⟨a3, a4⟩, a5⟩ := h
    intro p hp
    rcases List.mem_cons.1 hp with rfl | hp
    · exact ⟨by omega, a2, a3, a4⟩
    · exact atOk_nat r (q.1 + 1) (by omega) a5 p hp

/-- What may be is of small numbers, none below nought. -/
theorem may_parts {v : Vn} {al : List (Int × Int)} (h : mayI v al = true) : 1 ≤ v.it ∧ v.it ≤ 6 ∧ 1 ≤ v.L ∧ v.L ≤ 5000 ∧ 1 ≤ v.R ∧ v.R ≤ 5 ∧ 1 ≤ v.N ∧ v.N ≤ 1000 ∧ al.length ≤ 3 ∧ (∀ p ∈ al, 0 ≤ p.1 ∧ p.1 ≤ 3 ∧ 0 ≤ p.2 ∧ p.2 ≤ 99) ∧ v.tag.size ≤ 6 ∧ v.body.size ≤ 12 := by
  unfold mayI stOk f1 atsOk tagOk bodyOk at h
  simp only [Bool.and_eq_true, decide_eq_true_eq] at h
  obtain ⟨⟨h1, h2⟩, ⟨⟨h3, h4⟩, ⟨h5, h6⟩, h7, h8⟩, ⟨h9, h10⟩, ⟨h11, h12⟩, h13, h14⟩ := h
  exact ⟨h1, h2, h3, h4, h5, h6, h7, by omega, h9, atOk_nat al 0 (by omega) h10, h11, h14⟩

theorem map_nat (al : List (Int × Int)) (h : ∀ p ∈ al, 0 ≤ p.1 ∧ p.1 ≤ 3 ∧ 0 ≤ p.2 ∧ p.2 ≤ 99) : (al.map (fun p => (p.1.toNat, p.2.toNat))).map (fun x : Nat × Nat => ((x.1 : Int), (x.2 : Int))) = al := by
  rw [List.map_map]
  conv => rhs; rw [← List.map_id al]
  apply List.map_congr_left
  intro p hp
  obtain ⟨h1, _, h2, _⟩ := h p hp
  show (((p.1.toNat : Nat) : Int), ((p.2.toNat : Nat) : Int)) = p
  rw [Int.toNat_of_nonneg h1, Int.toNat_of_nonneg h2]

theorem vp_fit {v : Vn} {al : List (Int × Int)} (h : mayI v al = true) : Fit (vp v al) := by
  obtain ⟨h1, h2, h3, h4, h5, h6, h7, h8, h9, h10, h11, h12⟩ := may_parts h
  have e5 : (128 : Nat) ^ 5 = 34359738368 := rfl
  refine ⟨?_, ?_, ?_, ?_, ?_, ?_, ?_, ?_, ?_⟩ <;> simp only [vp, e5, List.length_map, bl_len]
  · omega
  · omega
  · omega
  · omega
  · unfold b2n; split <;> omega
  · omega
  · intro p hp
    obtain ⟨q, hq, rfl⟩ := List.mem_map.1 hp
    obtain ⟨a1, a2, a3, a4⟩ := h10 q hq
    simp only
    omega
  · omega
  · omega

theorem mayN_mk (i l r n d : Nat) (a : List (Nat × Nat)) (t b : List Nat) : mayN ⟨i, l, r, n, d, a, t, b⟩ = ((decide (1 ≤ i) && decide (i ≤ 6)) && (stOk l r n && (atsOk (a.map (fun x => ((x.1 : Int), (x.2 : Int)))) && ((decide (t.length ≤ 6) && t.all low1) && ((decide (d = 0) || (decide (d = 1) && decide (b.length = 0))) && decide (b.length ≤ 12)))))) := rfl

theorem mayN_vp {v : Vn} {al : List (Int × Int)} (h : mayI v al = true) : mayN (vp v al) = true := by
  have hp := may_parts h
  obtain ⟨h1, h2, h3, h4, h5, h6, h7, h8, h9, h10, h11, h12⟩ := hp
  unfold mayI tagOk bodyOk at h
  unfold vp
  rw [mayN_mk, map_nat al h10, bl_len, bl_len, Int.toNat_of_nonneg (show (0 : Int) ≤ v.L by omega), Int.toNat_of_nonneg (show (0 : Int) ≤ v.R by omega), Int.toNat_of_nonneg (show (0 : Int) ≤ v.N by omega)]
  simp only [Bool.and_eq_true, Bool.or_eq_true, decide_eq_true_eq, Bool.not_eq_true'] at h ⊢
  obtain ⟨_, a1, a2, ⟨_, a3⟩, a4, _⟩ := h
  refine ⟨⟨by omega, by omega⟩, a1, a2, ⟨h11, a3⟩, ?_, h12⟩
  rcases a4 with a4 | a4
  · left; rw [a4]; rfl
  · cases hd : v.dead
    · left; rfl
    · right; exact ⟨rfl, a4⟩

theorem mayN_3 (p : Vp) (h : mayN p = true) : p.a.length ≤ 3 ∧ p.d ≤ 1 := by
  unfold mayN atsOk at h
  simp only [Bool.and_eq_true, Bool.or_eq_true, decide_eq_true_eq, List.length_map] at h
  obtain ⟨_, _, ⟨h1, _⟩, _, h2, _⟩ := h
  exact ⟨h1, by rcases h2 with h2 | ⟨h2, _⟩ <;> omega⟩

theorem mayN_fit (p : Vp) (h : mayN p = true) : Fit p := by
  unfold mayN stOk f1 atsOk at h
  simp only [Bool.and_eq_true, Bool.or_eq_true, decide_eq_true_eq, List.length_map] at h
  obtain ⟨⟨h1, h2⟩, ⟨⟨h3, h4⟩, ⟨h5, h6⟩, h7, h8⟩, ⟨h9, h10⟩, ⟨h11, _⟩, h12, h13⟩ := h
  have e5 : (128 : Nat) ^ 5 = 34359738368 := rfl
  have ha := atOk_nat _ 0 (by omega) h10
  refine ⟨?_, ?_, ?_, ?_, ?_, ?_, ?_, ?_, ?_⟩ <;> try simp only [e5]
  · omega
  · omega
  · omega
  · omega
  · rcases h12 with h12 | ⟨h12, _⟩ <;> omega
  · omega
  · intro q hq
    obtain ⟨a1, a2, a3, a4⟩ := ha ((q.1 : Int), (q.2 : Int)) (List.mem_map.2 ⟨q, hq, rfl⟩)
    simp only at a1 a2 a3 a4
    omega
  · omega
  · omega

/-- Versions of the same parts have the same fields. -/
theorem vp_inj {v u : Vn} {al bl' : List (Int × Int)} (hv : mayI v al = true) (hu : mayI u bl' = true) (h : vp v al = vp u bl') : v.it = u.it ∧ v.L = u.L ∧ v.R = u.R ∧ v.N = u.N ∧ v.dead = u.dead ∧ al = bl' ∧ v.tag = u.tag ∧ v.body = u.body := by
  obtain ⟨h1, h2, h3, h4, h5, h6, h7, h8, h9, h10, h11, h12⟩ := may_parts hv
  obtain ⟨k1, k2, k3, k4, k5, k6, k7, k8, k9, k10, k11, k12⟩ := may_parts hu
  unfold vp at h
  obtain ⟨e1, e2, e3, e4, e5, e6, e7, e8⟩ := Vp.mk.inj h
  refine ⟨by omega, by omega, by omega, by omega, ?_, ?_, ?_, ?_⟩
  · unfold b2n at e5
    cases hd : v.dead <;> cases hd' : u.dead <;> rw [hd, hd'] at e5 <;> simp at e5 <;> rfl
  · rw [← map_nat al h10, ← map_nat bl' k10, e6]
  · rw [← strs_bl v.tag, ← strs_bl u.tag, e7]
  · rw [← strs_bl v.body, ← strs_bl u.body, e8]

end Go.Proofs.YtopkeembbopbmaaDoor
