import Derived.Test.YtcepfmeoeepjdaaAuQ
namespace Go.Proofs.Ytcepfmeoeepjdaa
namespace Au
open Go.RowKit
set_option linter.unusedVariables false
set_option maxRecDepth 8000
theorem i64w (n : Nat) (h : n < 9000000000000000000) : IntKind.i64.wrap (n : Int) = n := by simp only [IntKind.wrap, IntKind.signed, IntKind.bits]; simp; omega
theorem ct_room (c : Cs) : min (max c.room 0) 5000 = (rm c : Int) := by
  have := (rm_b c).2
  unfold ct at this
  omega
theorem wp_cut {P : Program} {c : Code} {Q : Exit → Act → World → Prop} {a : Act} {w : World} (T : World → Prop) (A1 : Act)
    (h : c.wp P (fun e a' w' => match e with | .normal => a' = A1 ∧ T w' | _ => False) a w) (hq : ∀ w', T w' → Q .normal A1 w') : c.wp P Q a w := by
  refine Code.wp_mono ?_ h
  intro e a' w' hh
  cases e with
  | normal => obtain ⟨rfl, ht⟩ := hh; exact hq w' ht
  | _ => exact hh.elim
set_option maxHeartbeats 4000000 in
theorem asked_any (c : Cs) (made kd : Int) (n p : Nat) (L : List T3) (hL : c.en = L.length) (hp : p ≤ 2) (hn : n < 4294967296) (hs : c.sn ≤ 140737488351232) (hl : L.length ≤ 140737488351232) (hk : kd = 0 ∨ kd = 1 ∨ kd = 2 ∨ made ≠ 0) (w : World) (hE : Row3 .u32 w c.ea L) :
    Calls Try.prog 14 #[.agg (cb c), .int .i64 made, .int .u32 (n : Int), .int .i64 ((p * n : Nat) : Int), .int .i64 kd] w fun e w' => e = .returned (.int .i64 (dk made n c.sn (rm c) p kd L (ct 0 200 c.bh))) ∧ Below w.heap.size w w' := by
  obtain ⟨w0, hw0⟩ : ∃ w0, (w.alloc (.cells (cb c) 30)) = w0 := ⟨_, rfl⟩
  have hB0 : Below w.heap.size w w0 := by rw [← hw0]; exact b1 _ _ _
  have hc0 : Cb w0 w.heap.size c := by rw [← hw0]; exact at0 _ _
  have HS : Hid (K14 w.heap.size c w0.drew) := hc0.k
  have HK : Hid (∀ o, K14 w.heap.size c (w0.alloc o).drew) := fun o => (show Cb (w0.alloc o) w.heap.size c from keep o hc0).k
  have HBh := hide (behind_any c)
  have HNm := hide num_any
  have hB1 : ∀ o, Below w.heap.size w (w0.alloc o).drew := fun o => belowD (bA hB0 hB0.size o)
  have HB1 := hide hB1
  have HA : Hid (∀ o f, Calls Try.prog 50 #[.int .i64 made, .int .u32 (n : Int), .int .i64 (c.sn : Int), .int .i64 (rm c : Int), .int .i64 ((p * n : Nat) : Int), .int .i64 kd, .slice c.ea c.en c.ec, .int .i64 f] (w0.alloc o).drew fun e w' => e = .returned (.int .i64 (dk made n c.sn (rm c) p kd L f)) ∧ w' = (w0.alloc o).drew) := fun o f => by
    rw [hL]
    exact ask_any n c.sn (rm c) p c.ec made kd f c.ea L hp hn hs (rm_b c).1 hl hk _ (hE.on (hB1 o) (Nat.le_refl _))
  obtain ⟨pn, hpn⟩ : ∃ pn : Int, ((p * n : Nat) : Int) = pn := ⟨_, rfl⟩
  rw [hpn] at HA ⊢
  have HW0 := hide hw0
  have hsn := hide hs
  have hr2 := (rm_b c).2
  obtain ⟨m, hm⟩ : ∃ m, rm c = m := ⟨_, rfl⟩
  rw [hm] at hr2 HA ⊢
  have hd : c.room < 0 ∧ m = 0 ∨ 5000 < c.room ∧ m = 5000 ∨ (0 ≤ c.room ∧ c.room ≤ 5000 ∧ c.room = m) := by unfold ct at hr2; split at hr2 <;> (try split at hr2) <;> omega
  obtain ⟨D, hD⟩ : ∃ D, dk made n c.sn m p kd L (ct 0 200 c.bh) = D := ⟨_, rfl⟩
  have HA : Hid (∀ o (x : Int), x = (m : Int) → Calls Try.prog 50 #[.int .i64 made, .int .u32 (n : Int), .int .i64 (c.sn : Int), .int .i64 x, .int .i64 pn, .int .i64 kd, .slice c.ea c.en c.ec, .int .i64 (ct 0 200 c.bh)] (w0.alloc o).drew fun e w' => e = .returned (.int .i64 D) ∧ w' = (w0.alloc o).drew) := fun o x hx => by rw [← hD, hx]; exact HA.out o _
  rw [hD]
  clear hw0 hB0 hc0 hB1 hE hL hpn hr2 hm hD hk hp hs
  rcases hd with hd | hd | hd
  · obtain ⟨h1, h3⟩ := hd
    go_enter Try.func14, Try.ntmps14
    go_wp2_with (fail)
    rw [HW0.out]
    apply wp_cut (fun w' => w' = (w0.alloc (.cells (cb c) 30)).drew)
    case h =>
      go_region_held3 (K14 w.heap.size c) ((first | with_reducible exact HS.out | with_reducible exact HK.out _)) ((first | (go_at_call 13; refine (HBh.out _).mono ?_; rintro e1 w1 ⟨rfl, rfl⟩) | (go_at_call 37; refine (HNm.out _ _).mono ?_; rintro e1 w1 ⟨rfl, rfl⟩) | (go_at_call 50; refine (HA.out _ _ (by omega)).mono ?_; rintro e1 w1 ⟨rfl, rfl⟩)))
      all_goals exact ⟨rfl, rfl⟩
    case hq =>
      rintro w1 rfl
      go_wp2
      all_goals go_ret
      all_goals exact ⟨rfl, HB1.out _⟩
  · obtain ⟨h1, h3⟩ := hd
    have h2 : ¬ c.room < 0 := by omega
    go_enter Try.func14, Try.ntmps14
    go_wp2_with (fail)
    rw [HW0.out]
    apply wp_cut (fun w' => w' = (w0.alloc (.cells (cb c) 30)).drew)
    case h =>
      go_region_held3 (K14 w.heap.size c) ((first | with_reducible exact HS.out | with_reducible exact HK.out _)) ((first | (go_at_call 13; refine (HBh.out _).mono ?_; rintro e1 w1 ⟨rfl, rfl⟩) | (go_at_call 37; refine (HNm.out _ _).mono ?_; rintro e1 w1 ⟨rfl, rfl⟩) | (go_at_call 50; refine (HA.out _ _ (by omega)).mono ?_; rintro e1 w1 ⟨rfl, rfl⟩)))
      all_goals exact ⟨rfl, rfl⟩
    case hq =>
      rintro w1 rfl
      go_wp2
      all_goals go_ret
      all_goals exact ⟨rfl, HB1.out _⟩
  · obtain ⟨h1, h2, h3⟩ := hd
    have h4 : ¬ c.room < 0 := by omega
    have h5 : ¬ 5000 < c.room := by omega
    have H3 := hide h3
    clear h3
    go_enter Try.func14, Try.ntmps14
    go_wp2_with (fail)
    rw [HW0.out]
    apply wp_cut (fun w' => w' = (w0.alloc (.cells (cb c) 30)).drew)
    case h =>
      go_region_held3 (K14 w.heap.size c) ((first | with_reducible exact HS.out | with_reducible exact HK.out _)) ((first | (go_at_call 13; refine (HBh.out _).mono ?_; rintro e1 w1 ⟨rfl, rfl⟩) | (go_at_call 37; refine (HNm.out _ _).mono ?_; rintro e1 w1 ⟨rfl, rfl⟩) | (go_at_call 50; refine (HA.out _ _ (by have := H3.out; omega)).mono ?_; rintro e1 w1 ⟨rfl, rfl⟩)))
      all_goals exact ⟨rfl, rfl⟩
    case hq =>
      rintro w1 rfl
      go_wp2
      all_goals go_ret
      all_goals exact ⟨rfl, HB1.out _⟩
end Au
end Go.Proofs.Ytcepfmeoeepjdaa
