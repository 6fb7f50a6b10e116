import Derived.Test.YtcolkfoodjpdjaaRaF
namespace Go.Proofs.Ytcolkfoodjpdjaa
namespace Ra
open Go.RowKit
set_option linter.unusedVariables false
theorem ETw.blk {w w' : World} {y : Addr} {l c : Nat} {E : Nat → En} (h : ETw w y l c E) (hs : w.heap.size ≤ w'.heap.size) (hb : w'.heap[y.block]? = w.heap[y.block]?) : ETw w' y l c E := by
  have hc : ∀ i, w'.cell? (y.add i) = w.cell? (y.add i) := fun i => World.cell?_of_block (by rw [add_block]; exact hb)
  obtain ⟨h1, ⟨h2, h3⟩, h4, h5⟩ := h
  exact ⟨h1, ⟨Nat.lt_of_lt_of_le h2 hs, fun i hi => ⟨(hc _).trans (h3 i hi).1, (hc _).trans (h3 i hi).2⟩⟩, (hc _).trans h4, (hc _).trans h5⟩
/-- What twin has made of the first k sections. -/
def TX (D : Nat → Dt) (k : Nat) (v : Value) (wr : World) (xs : List Value) : Prop :=
  ∀ i, i < k → xs[i * 2]? = some (.string (D i).nm) ∧ ∃ y c, xs[i * 2 + 1]? = some (.slice (some ⟨y, 0, none⟩) (D i).l c) ∧ ETw wr ⟨y, 0, none⟩ (D i).l c (D i).E ∧ some y ≠ v.ownBlock
theorem TX.step {B k : Nat} {D : Nat → Dt} {v v' : Value} {wr w3 w4 : World} {xs : List Value} {g cap : Nat} (h : TX D k v wr xs) (hown : wr.ownsRow B 37 2 v k xs) (hB : Below wr.heap.size wr w3) (he : ETw w3 ⟨g, 0, none⟩ (D k).l cap (D k).E) (hg : wr.heap.size ≤ g) (hgr : w3.grownBy w4 v.ownBlock) (hat : v'.ownBlock = v.ownBlock ∨ v'.ownBlock = some w3.heap.size) :
    TX D (k + 1) v' w4 (xs ++ [.string (D k).nm, .slice (some ⟨g, 0, none⟩) (D k).l cap]) := by
  have hxl : xs.length = k * 2 := hown.1
  have ne : ∀ y, y < w3.heap.size → some y ≠ v.ownBlock → some y ≠ v'.ownBlock := by
    intro y hy hne
    rcases hat with e | e
    · rw [e]; exact hne
    · rw [e]; intro e2; cases e2; omega
  have kp : ∀ y l c E, ETw w3 ⟨y, 0, none⟩ l c E → some y ≠ v.ownBlock → ETw w4 ⟨y, 0, none⟩ l c E := fun y l c E hE hne => hE.blk hgr.size (hgr.block y hE.2.1.1 hne)
  intro i hi
  by_cases hik : i < k
  · obtain ⟨a, y, c, b, e, n⟩ := h i hik
    have e3 := e.on hB
    exact ⟨by rw [List.getElem?_append_left (by omega)]; exact a, y, c, by rw [List.getElem?_append_left (by omega)]; exact b, kp y _ c _ e3 n, ne y e3.2.1.1 n⟩
  · obtain rfl : i = k := by omega
    have hgn : some g ≠ v.ownBlock := fun e => by have := (hown.lt g e.symm).2; omega
    exact ⟨by rw [List.getElem?_append_right (by omega), hxl]; simp, g, cap, by rw [List.getElem?_append_right (by omega), hxl]; simp, kp g _ cap _ he hgn, ne g he.2.1.1 hgn⟩
theorem below_of_grown {B : Nat} {w w3 w4 : World} {v : Value} {r : Option Nat} (h : Below B w w3) (hgr : w3.grownBy w4 r) (hlt : ∀ k, r = some k → B ≤ k) (hB : B ≤ w3.heap.size) : Below B w w4 := h.grown hgr hB (fun j hj => hlt j hj)
/-- The end: the mark behind the sections. -/
theorem TX.done {B l : Nat} {D : Nat → Dt} {v : Value} {wr w3 w4 : World} {xs : List Value} {x cap : Nat} (h : TX D l v wr xs) (hown : wr.ownsRow B 37 2 v l xs) (hB : Below wr.heap.size wr w3) (hgr : w3.grownBy w4 v.ownBlock)
    (hown' : w4.ownsRow B 37 2 (.slice (some ⟨x, 0, none⟩) (l + 1) cap) (l + 1) (xs ++ [.string mk, .slice none 0 0])) : TAt w4 ⟨x, 0, none⟩ l cap D := by
  have hxl : xs.length = l * 2 := hown.1
  have hlt := hown'.lt x rfl
  have hc := hown'.cells (g := x) rfl
  have hcap : l + 1 ≤ cap := by
    rcases hown'.2 with ⟨e, _⟩ | ⟨g', cap', cur, e, _, _, h4, _⟩
    · cases e
    · cases e; exact h4
  refine ⟨hcap, hlt.2, hc _ _ (by rw [List.getElem?_append_right (by omega), hxl]; simp), fun i hi => ?_⟩
  obtain ⟨a, y, c, b, e, n⟩ := h i hi
  have e3 := e.on hB
  exact ⟨hc _ _ (by rw [List.getElem?_append_left (by omega)]; exact a), ⟨y, 0, none⟩, c, hc _ _ (by rw [List.getElem?_append_left (by omega)]; exact b), e3.blk hgr.size (hgr.block y e3.2.1.1 n)⟩
set_option maxHeartbeats 1600000 in
set_option maxRecDepth 8000 in
theorem twin_any (a : Option Addr) (l c : Nat) (D : Nat → Dt) (w : World) (hl : cnt D l ≤ 100000) (hr : SRow w a l D) :
    Calls Try.prog 6 #[.slice a l c] w fun e w' => ∃ x k, e = .returned (.slice (some ⟨x, 0, none⟩) l k) ∧ TAt w' ⟨x, 0, none⟩ l k D ∧ Below w.heap.size w w' := by
  have HR : Hid (SRow w a l D) := hr
  have hll := cnt_ge D l
  clear hr
  go_enter Try.func6, Try.ntmps6
  go_wp2
  go_loopw [3, 4] (fun v i wr => ∃ (k : Nat) (xs : List Value), k ≤ l ∧ i = .int .i64 k ∧ wr.ownsRow w.heap.size 37 2 v k xs ∧ TX D k v wr xs ∧ Below w.heap.size w wr) (fun _ i _ => l - (intOf i).toNat)
  case atStart => exact ⟨0, [], Nat.zero_le _, rfl, World.ownsRow_nil _ _ _ _, fun i hi => by omega, Below.refl _ _⟩
  case round =>
    obtain ⟨k, xs, hk, rfl, hown, hT, hB⟩ := hrel
    have hsz := hB.size
    by_cases hlt : k < l
    · obtain ⟨x, rfl, hx⟩ := HR.out (by omega)
      replace hx := hx.on hB
      obtain ⟨p0, a1, c1, p1, hn1, e1⟩ := hx.2 k hlt
      obtain ⟨P0, P1⟩ := cells2 ⟨p0, p1⟩
      have HS := cnt_at D hlt
      have HX : Hid (Src wr (.slice a1 (D k).l c1) (D k).l (ec (D k).E (D k).l)) := e1.src hn1
      have hxb := hx.1
      have HTX : Hid (TX D k u3 wr xs) := hT
      have HOW : Hid (wr.ownsRow w.heap.size 37 2 u3 k xs) := hown
      have HBB : Hid (Below w.heap.size w wr) := hB
      clear hx p0 p1 e1 hn1 hT hown hB
      obtain ⟨nm, HN⟩ : ∃ nm, Hid ((D k).nm = nm) := ⟨_, rfl⟩
      obtain ⟨lk, HL⟩ : ∃ lk, Hid ((D k).l = lk) := ⟨_, rfl⟩
      obtain ⟨Ek, HE⟩ : ∃ Ek, Hid ((D k).E = Ek) := ⟨_, rfl⟩
      rw [HN.out] at P0
      rw [HL.out] at P1 HS
      rw [HL.out, HE.out] at HX
      go_wp2_with (at_builtin; refine wpList_append2 tpE rfl _ _ rfl wr.heap.size _ _ 0 lk [] (ec Ek lk) rfl (World.ownsRow_nil _ _ _ _) rfl HX.out (by omega) (Nat.le_refl _) ?_)
      intro v1 w1 hown1 hgr1 _
      have hB1 : Below wr.heap.size wr w1 := (Below.refl _ _).grown hgr1 (Nat.le_refl _) (fun j hj => by cases hj)
      replace hown1 : w1.ownsRow wr.heap.size 31 2 v1 lk (ec Ek lk) := by simpa using hown1
      have hs1 := hB1.size
      have hlk : lk ≤ 100000 := by omega
      clear hgr1 HX
      go_wp2_with (at_builtin; refine wpList_append2 tpE rfl _ _ rfl wr.heap.size v1 _ lk 1 (ec Ek lk) [.string mk, .string bh] rfl (hown1.alloc _) rfl (src_new _ _ _ _ rfl rfl _) (by omega) (by simp; omega) ?_)
      intro v2 w2 hown2 hgr2 _
      have hB2 : Below wr.heap.size wr w2 := (hB1.alloc (by omega) _).grown hgr2 (by simp; omega) (fun j hj => (hown1.lt j hj).1)
      obtain ⟨g, cap, rfl⟩ := ownsRow_succ hown2
      obtain ⟨hE2, hg1, hg2, hg3⟩ := own_tw hown2
      have hs2 := hB2.size
      have P0' := (hB2.cell (p := x.add (k * 2)) (by rw [add_block]; exact hxb)).trans P0
      have hcp : (lk : Int) ≤ (cap : Int) := by omega
      clear hgr2 hown1 hown2 P0 P1
      go_wp2_with (fail)
      have HO2 : Hid (w2.ownsRow w.heap.size 37 2 u3 k xs) := HOW.out.kept (row := none) ⟨hB2.os, hB2.tape, hB2.output, hB2.size, fun j hj _ => hB2.block j hj⟩ (by cases u3.ownBlock <;> simp)
      have hwk : IntKind.i64.wrap (lk : Int) = (lk : Int) := by rw [IntKind.wrap_i64]; omega
      have hbk : 0 ≤ (lk : Int) ∧ (lk : Int) ≤ (cap : Int) := by omega
      have HE2 : Hid (ETw w2 ⟨g, 0, none⟩ lk cap Ek) := hE2
      have HB2 : Hid (Below wr.heap.size wr w2) := hB2
      clear hB1 hE2 hB2
      go_region_law ((refine step_append2 tpS (by rfl) _ _ (by rfl) w.heap.size u3 _ k 1 xs [.string nm, .slice (some ⟨g, 0, none⟩) lk cap] (by rfl) (HO2.out.alloc _) (by rfl) (src_new _ _ _ _ rfl rfl _) (by omega) (by simp; omega) ?_; intro v3 w3 hown3 hgr3 hat3))
      have hBX : Below wr.heap.size wr (w2.alloc (.cells #[.string nm, .slice (some ⟨g, 0, none⟩) lk cap] 37)).drew := below_drew (HB2.out.alloc hs2 _) 1
      have HT3 : Hid (TX D (k + 1) v3 w3 (xs ++ [.string nm, .slice (some ⟨g, 0, none⟩) lk cap])) := by
        have h9 := TX.step (g := g) (cap := cap) HTX.out HOW.out hBX (by rw [HL.out, HE.out]; exact HE2.out.on (below_drew ((Below.refl _ _).alloc (Nat.le_refl _) _) 1)) hg1 hgr3 hat3
        rw [HN.out, HL.out] at h9
        exact h9
      have HB3 : Hid (Below w.heap.size w w3) := (HBB.out.trans (hBX.mono hsz)).grown hgr3 (Nat.le_trans hsz hBX.size) (fun j hj => (HOW.out.lt j hj).1)
      have HO3 : Hid (w3.ownsRow w.heap.size 37 2 v3 (k + 1) (xs ++ [.string nm, .slice (some ⟨g, 0, none⟩) lk cap])) := hown3
      clear hBX hgr3 hat3 hown3
      go_wp2
      exact ⟨⟨k + 1, _, by omega, by go_num, HO3.out, HT3.out, HB3.out⟩, by simp [intOf]; omega⟩
    · obtain rfl : k = l := by omega
      go_wp2_with (at_builtin; refine wpList_append2 tpS rfl _ _ rfl w.heap.size _ _ k 1 xs [.string mk, .slice none 0 0] rfl (hown.alloc _) rfl (src_new _ _ _ _ rfl rfl _) (by omega) (by simp; omega) ?_)
      intro v1 w1 hown1 hgr1 _
      obtain ⟨g, cap, rfl⟩ := ownsRow_succ hown1
      have HF : Hid (TAt w1 ⟨g, 0, none⟩ k cap D) := TX.done hT hown ((Below.refl _ _).alloc (Nat.le_refl _) _) hgr1 hown1
      have HB2 : Hid (Below w.heap.size w w1) := (hB.alloc hsz _).grown hgr1 (by simp; omega) (fun j hj => (hown.lt j hj).1)
      have hcp : (k : Int) ≤ (cap : Int) := by have := HF.out.1; omega
      clear hown1 hgr1 hown hT hB
      go_wp2
      go_ret
      exact ⟨_, _, rfl, HF.out, HB2.out⟩
end Ra
end Go.Proofs.Ytcolkfoodjpdjaa
