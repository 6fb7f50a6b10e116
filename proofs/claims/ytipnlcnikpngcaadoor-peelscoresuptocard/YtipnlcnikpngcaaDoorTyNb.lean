import Derived.WalkKit
import Derived.Laws.BitsAllLaws
namespace Go.Proofs.YtipnlcnikpngcaaDoor
namespace Nb
/-- Digits of base 256, the lowest first. -/
def V : List Nat → Nat
  | [] => 0
  | a :: l => a + 256 * V l
theorem and_step (a b A B : Nat) (ha : a < 256) (hb : b < 256) : (a + 256 * A) &&& (b + 256 * B) = (a &&& b) + 256 * (A &&& B) := by
  have h1 : ((a + 256 * A) &&& (b + 256 * B)) % 2 ^ 8 = (a &&& b) := by
    rw [Nat.and_mod_two_pow]
    rw [show (a + 256 * A) % 2 ^ 8 = a by omega, show (b + 256 * B) % 2 ^ 8 = b by omega]
  have h2 : ((a + 256 * A) &&& (b + 256 * B)) / 2 ^ 8 = (A &&& B) := by
    rw [Nat.and_div_two_pow]
    rw [show (a + 256 * A) / 2 ^ 8 = A by omega, show (b + 256 * B) / 2 ^ 8 = B by omega]
  omega
theorem or_step (a b A B : Nat) (ha : a < 256) (hb : b < 256) : (a + 256 * A) ||| (b + 256 * B) = (a ||| b) + 256 * (A ||| B) := by
  have h1 : ((a + 256 * A) ||| (b + 256 * B)) % 2 ^ 8 = (a ||| b) := by
    rw [Nat.or_mod_two_pow]
    rw [show (a + 256 * A) % 2 ^ 8 = a by omega, show (b + 256 * B) % 2 ^ 8 = b by omega]
  have h2 : ((a + 256 * A) ||| (b + 256 * B)) / 2 ^ 8 = (A ||| B) := by
    rw [Nat.or_div_two_pow]
    rw [show (a + 256 * A) / 2 ^ 8 = A by omega, show (b + 256 * B) / 2 ^ 8 = B by omega]
  omega
abbrev Prs := List (Nat × Nat)
def By (L : Prs) : Prop := ∀ p ∈ L, p.1 < 256 ∧ p.2 < 256
theorem V_and (L : Prs) (f g : Nat × Nat → Nat) (hf : ∀ p ∈ L, f p < 256) (hg : ∀ p ∈ L, g p < 256) : V (L.map f) &&& V (L.map g) = V (L.map (fun p => f p &&& g p)) := by
  induction L with
  | nil => simp [V]
  | cons p L ih =>
    simp only [List.map_cons, V]
    rw [and_step _ _ _ _ (hf p (by simp)) (hg p (by simp)), ih (fun q hq => hf q (by simp [hq])) (fun q hq => hg q (by simp [hq]))]
theorem V_or (L : Prs) (f g : Nat × Nat → Nat) (hf : ∀ p ∈ L, f p < 256) (hg : ∀ p ∈ L, g p < 256) : V (L.map f) ||| V (L.map g) = V (L.map (fun p => f p ||| g p)) := by
  induction L with
  | nil => simp [V]
  | cons p L ih =>
    simp only [List.map_cons, V]
    rw [or_step _ _ _ _ (hf p (by simp)) (hg p (by simp)), ih (fun q hq => hf q (by simp [hq])) (fun q hq => hg q (by simp [hq]))]
theorem V_add (L : Prs) (f g h : Nat × Nat → Nat) (e : ∀ p ∈ L, f p + g p = h p) : V (L.map f) + V (L.map g) = V (L.map h) := by
  induction L with
  | nil => rfl
  | cons p L ih =>
    simp only [List.map_cons, V]
    have h1 := ih (fun q hq => e q (by simp [hq]))
    have h2 := e p (by simp)
    omega
theorem V_congr (L : Prs) (f g : Nat × Nat → Nat) (e : ∀ p ∈ L, f p = g p) : V (L.map f) = V (L.map g) := by
  rw [List.map_congr_left e]
theorem V_mul (L : Prs) (f : Nat × Nat → Nat) : V (L.map (fun p => 16 * f p)) = 16 * V (L.map f) := by
  induction L with
  | nil => rfl
  | cons p L ih => simp only [List.map_cons, V]; omega
theorem V_lt (L : Prs) (f : Nat × Nat → Nat) (hf : ∀ p ∈ L, f p < 256) : V (L.map f) < 256 ^ L.length := by
  induction L with
  | nil => simp [V]
  | cons p L ih =>
    have h1 := ih (fun q hq => hf q (by simp [hq]))
    have h2 := hf p (by simp)
    simp only [List.map_cons, V, List.length_cons, Nat.pow_succ]
    omega
/-- Is the first not below the second? -/
def t (p : Nat × Nat) : Nat := if p.2 ≤ p.1 then 1 else 0
theorem t_le (p : Nat × Nat) : t p ≤ 1 := by unfold t; split <;> omega
theorem dig : ∀ a, a < 16 → ∀ b, b < 16 → (a ||| 16 = a + 16) ∧ ((a + 16 - b) &&& 16 = 16 * t (a, b)) ∧ (a &&& (15 * t (a, b))) ||| (b &&& (255 - 15 * t (a, b))) = max a b := by decide +kernel
/-- What the program does with numbers whose digits are below 16. -/
def spread (X Y : Nat) : Nat :=
  let n := ((X ||| 1157442765409226768) - Y) &&& 1157442765409226768
  let k := n - n / 16
  (X &&& k) ||| (Y &&& (18446744073709551615 - k))
def Small (L : Prs) : Prop := ∀ p ∈ L, p.1 < 16 ∧ p.2 < 16
theorem room_eq (L : Prs) (h : L.length = 8) : V (L.map (fun _ => 16)) = 1157442765409226768 := by
  match L, h with
  | [_, _, _, _, _, _, _, _], _ => simp [V]
theorem full_eq (L : Prs) (h : L.length = 8) : V (L.map (fun _ => 255)) = 18446744073709551615 := by
  match L, h with
  | [_, _, _, _, _, _, _, _], _ => simp [V]
theorem spread_eq (L : Prs) (h8 : L.length = 8) (hs : Small L) : spread (V (L.map Prod.fst)) (V (L.map Prod.snd)) = V (L.map (fun p => max p.1 p.2)) ∧
    V (L.map Prod.snd) ≤ (V (L.map Prod.fst) ||| 1157442765409226768) ∧ (V (L.map Prod.fst) ||| 1157442765409226768) < 18446744073709551616 := by
  have e1 : V (L.map Prod.fst) ||| 1157442765409226768 = V (L.map (fun p => p.1 + 16)) := by
    rw [← room_eq L h8, V_or L _ _ (fun p hp => by have := hs p hp; omega) (fun p hp => by omega)]
    exact V_congr L _ _ (fun p hp => (dig p.1 (hs p hp).1 p.2 (hs p hp).2).1)
  have e2 : V (L.map (fun p => p.1 + 16 - p.2)) + V (L.map Prod.snd) = V (L.map (fun p => p.1 + 16)) := V_add L _ _ _ (fun p hp => by have := hs p hp; show p.1 + 16 - p.2 + p.2 = p.1 + 16; omega)
  have hlt : V (L.map (fun p => p.1 + 16)) < 18446744073709551616 := by
    have := V_lt L (fun p => p.1 + 16) (fun p hp => by have := hs p hp; show p.1 + 16 < 256; omega)
    rw [h8] at this; simpa using this
  have e3 : V (L.map (fun p => p.1 + 16 - p.2)) &&& 1157442765409226768 = 16 * V (L.map t) := by
    rw [← room_eq L h8, V_and L _ _ (fun p hp => by have := hs p hp; show p.1 + 16 - p.2 < 256; omega) (fun p hp => by omega), ← V_mul]
    exact V_congr L _ _ (fun p hp => (dig p.1 (hs p hp).1 p.2 (hs p hp).2).2.1)
  have e4 : V (L.map (fun p => 15 * t p)) + V (L.map t) = V (L.map (fun p => 16 * t p)) := V_add L _ _ _ (fun p hp => by show 15 * t p + t p = 16 * t p; omega)
  rw [V_mul] at e4
  have e5 : V (L.map (fun p => 255 - 15 * t p)) + V (L.map (fun p => 15 * t p)) = V (L.map (fun _ => 255)) := V_add L _ _ _ (fun p hp => by have := t_le p; show 255 - 15 * t p + 15 * t p = 255; omega)
  rw [full_eq L h8] at e5
  refine ⟨?_, by omega, by omega⟩
  unfold spread
  have f1 : V (L.map (fun p => p.1 + 16)) - V (L.map Prod.snd) = V (L.map (fun p => p.1 + 16 - p.2)) := by omega
  have f2 : 16 * V (L.map t) - 16 * V (L.map t) / 16 = V (L.map (fun p => 15 * t p)) := by omega
  have f3 : 18446744073709551615 - V (L.map (fun p => 15 * t p)) = V (L.map (fun p => 255 - 15 * t p)) := by omega
  simp only [e1, f1, e3, f2, f3]
  have hf : ∀ p ∈ L, 15 * t p < 256 := fun p _ => by have := t_le p; omega
  rw [V_and L _ _ (fun p hp => by have := hs p hp; omega) hf, V_and L _ _ (fun p hp => by have := hs p hp; omega) (fun p hp => by show 255 - 15 * t p < 256; omega),
    V_or L _ _ (fun p hp => Nat.lt_of_le_of_lt Nat.and_le_left (by have := hs p hp; omega)) (fun p hp => Nat.lt_of_le_of_lt Nat.and_le_left (by have := hs p hp; omega))]
  exact V_congr L _ _ (fun p hp => (dig p.1 (hs p hp).1 p.2 (hs p hp).2).2.2)
/-- The pairs of bytes of two numbers. -/
def prs (x y : Nat) : Nat → Prs
  | 0 => []
  | n + 1 => (x % 256, y % 256) :: prs (x / 256) (y / 256) n
theorem prs_len (x y n : Nat) : (prs x y n).length = n := by
  induction n generalizing x y with
  | zero => rfl
  | succ n ih => simp [prs, ih]
theorem prs_by (x y n : Nat) : By (prs x y n) := by
  induction n generalizing x y with
  | zero => intro p hp; cases hp
  | succ n ih =>
    intro p hp
    rcases List.mem_cons.mp hp with rfl | h
    · exact ⟨Nat.mod_lt _ (by omega), Nat.mod_lt _ (by omega)⟩
    · exact ih _ _ p h
theorem prs_fst (x y n : Nat) (h : x < 256 ^ n) : V ((prs x y n).map Prod.fst) = x := by
  induction n generalizing x y with
  | zero => simp [prs, V]; omega
  | succ n ih =>
    simp only [prs, List.map_cons, V]
    rw [ih (x / 256) (y / 256) (by rw [Nat.pow_succ] at h; omega)]; omega
theorem prs_snd (x y n : Nat) (h : y < 256 ^ n) : V ((prs x y n).map Prod.snd) = y := by
  induction n generalizing x y with
  | zero => simp [prs, V]; omega
  | succ n ih =>
    simp only [prs, List.map_cons, V]
    rw [ih (x / 256) (y / 256) (by rw [Nat.pow_succ] at h; omega)]; omega
theorem even_eq (L : Prs) (h : L.length = 8) : V (L.map (fun _ => 15)) = 1085102592571150095 := by
  match L, h with
  | [_, _, _, _, _, _, _, _], _ => simp [V]
theorem odd_eq (L : Prs) (h : L.length = 8) : V (L.map (fun _ => 240)) = 17361641481138401520 := by
  match L, h with
  | [_, _, _, _, _, _, _, _], _ => simp [V]
theorem lowd : ∀ a, a < 256 → (a &&& 15 = a % 16) ∧ (a &&& 240 = 16 * (a / 16)) := by decide +kernel
theorem joind : ∀ a, a < 16 → ∀ b, b < 16 → a ||| 16 * b = a + 16 * b := by decide +kernel
def nibs (x y : Nat) : Nat :=
  spread (x &&& 1085102592571150095) (y &&& 1085102592571150095) ||| 16 * spread (x / 16 &&& 1085102592571150095) (y / 16 &&& 1085102592571150095)
theorem div_and (x : Nat) : x / 16 &&& 1085102592571150095 = (x &&& 17361641481138401520) / 16 := by
  have h := Nat.and_div_two_pow (a := x) (b := 17361641481138401520) (n := 4)
  simpa using h.symm
def lows (L : Prs) : Prs := L.map (fun p => (p.1 % 16, p.2 % 16))
def highs (L : Prs) : Prs := L.map (fun p => (p.1 / 16, p.2 / 16))
structure Parts (x y : Nat) (L : Prs) : Prop where
  l : L.length = 8
  b : By L
  xe : x &&& 1085102592571150095 = V ((lows L).map Prod.fst)
  ye : y &&& 1085102592571150095 = V ((lows L).map Prod.snd)
  xo : x / 16 &&& 1085102592571150095 = V ((highs L).map Prod.fst)
  yo : y / 16 &&& 1085102592571150095 = V ((highs L).map Prod.snd)
theorem parts (x y : Nat) (hx : x < 18446744073709551616) (hy : y < 18446744073709551616) : Parts x y (prs x y 8) := by
  have hb := prs_by x y 8
  have hl := prs_len x y 8
  have h1 := prs_fst x y 8 (by simpa using hx)
  have h2 := prs_snd x y 8 (by simpa using hy)
  generalize prs x y 8 = L at *
  refine ⟨hl, hb, ?_, ?_, ?_, ?_⟩
  · rw [← h1, ← even_eq L hl, V_and L _ _ (fun p hp => (hb p hp).1) (fun p hp => by omega)]
    unfold lows; rw [List.map_map]
    exact V_congr L _ _ (fun p hp => (lowd p.1 (hb p hp).1).1)
  · rw [← h2, ← even_eq L hl, V_and L _ _ (fun p hp => (hb p hp).2) (fun p hp => by omega)]
    unfold lows; rw [List.map_map]
    exact V_congr L _ _ (fun p hp => (lowd p.2 (hb p hp).2).1)
  · have e : (x &&& 17361641481138401520) = 16 * V (L.map (fun p => p.1 / 16)) := by
      rw [← h1, ← odd_eq L hl, V_and L _ _ (fun p hp => (hb p hp).1) (fun p hp => by omega), ← V_mul]
      exact V_congr L _ _ (fun p hp => (lowd p.1 (hb p hp).1).2)
    rw [div_and, e, Nat.mul_div_cancel_left _ (by omega)]
    unfold highs; rw [List.map_map]; rfl
  · have e : (y &&& 17361641481138401520) = 16 * V (L.map (fun p => p.2 / 16)) := by
      rw [← h2, ← odd_eq L hl, V_and L _ _ (fun p hp => (hb p hp).2) (fun p hp => by omega), ← V_mul]
      exact V_congr L _ _ (fun p hp => (lowd p.2 (hb p hp).2).2)
    rw [div_and, e, Nat.mul_div_cancel_left _ (by omega)]
    unfold highs; rw [List.map_map]; rfl
theorem lows_small (L : Prs) : Small (lows L) := by
  intro p hp
  obtain ⟨q, _, rfl⟩ := List.mem_map.mp hp
  exact ⟨Nat.mod_lt _ (by omega), Nat.mod_lt _ (by omega)⟩
theorem highs_small (L : Prs) (h : By L) : Small (highs L) := by
  intro p hp
  obtain ⟨q, hq, rfl⟩ := List.mem_map.mp hp
  have := h q hq
  exact ⟨by show q.1 / 16 < 16; omega, by show q.2 / 16 < 16; omega⟩
/-- The greater of each sixteen. -/
def nmax (x y : Nat) : Nat → Nat
  | 0 => 0
  | k + 1 => nmax x y k + max (x / 16 ^ k % 16) (y / 16 ^ k % 16) * 16 ^ k
theorem nmax_head (x y k : Nat) : nmax x y (k + 1) = max (x % 16) (y % 16) + 16 * nmax (x / 16) (y / 16) k := by
  induction k with
  | zero => simp [nmax]
  | succ k ih =>
    rw [nmax, ih, nmax]
    have e1 : x / 16 ^ (k + 1) = x / 16 / 16 ^ k := by rw [Nat.pow_succ, Nat.mul_comm, Nat.div_div_eq_div_mul]
    have e2 : y / 16 ^ (k + 1) = y / 16 / 16 ^ k := by rw [Nat.pow_succ, Nat.mul_comm, Nat.div_div_eq_div_mul]
    rw [e1, e2, Nat.pow_succ]
    generalize max (x / 16 / 16 ^ k % 16) (y / 16 / 16 ^ k % 16) = m
    generalize 16 ^ k = q
    rw [Nat.mul_add, ← Nat.mul_assoc, Nat.mul_comm (m * q) 16, ← Nat.mul_assoc, Nat.add_assoc, Nat.mul_assoc 16 m q]
theorem nmax_V (x y n : Nat) : nmax x y (2 * n) = V ((prs x y n).map (fun p => max (p.1 % 16) (p.2 % 16) + 16 * max (p.1 / 16) (p.2 / 16))) := by
  induction n generalizing x y with
  | zero => rfl
  | succ n ih =>
    rw [show 2 * (n + 1) = 2 * n + 1 + 1 from by omega, nmax_head, nmax_head, show x / 16 / 16 = x / 256 by omega, show y / 16 / 16 = y / 256 by omega, ih]
    simp only [prs, List.map_cons, V]
    rw [show x % 256 % 16 = x % 16 by omega, show y % 256 % 16 = y % 16 by omega, show x % 256 / 16 = x / 16 % 16 by omega, show y % 256 / 16 = y / 16 % 16 by omega]
    omega
theorem nibs_eq (x y : Nat) (hx : x < 18446744073709551616) (hy : y < 18446744073709551616) : nibs x y = nmax x y 16 := by
  obtain ⟨hl, hb, xe, ye, xo, yo⟩ := parts x y hx hy
  unfold nibs
  rw [xe, ye, xo, yo, (spread_eq _ (by simp [lows, hl]) (lows_small _)).1, (spread_eq _ (by simp [highs, hl]) (highs_small _ hb)).1, show (16 : Nat) = 2 * 8 from rfl, nmax_V x y 8, show 2 * 8 = 16 from rfl]
  generalize prs x y 8 = L at *
  unfold lows highs
  rw [List.map_map, List.map_map, ← V_mul, V_or L _ _ ?_ ?_]
  · refine V_congr L _ _ (fun p hp => ?_)
    have := hb p hp
    exact joind _ (show max (p.1 % 16) (p.2 % 16) < 16 by omega) _ (show max (p.1 / 16) (p.2 / 16) < 16 by omega)
  · intro p hp; show max (p.1 % 16) (p.2 % 16) < 256; omega
  · intro p hp; have := hb p hp; show 16 * max (p.1 / 16) (p.2 / 16) < 256; omega
end Nb
end Go.Proofs.YtipnlcnikpngcaaDoor
