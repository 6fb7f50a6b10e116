import Derived.Test.YtclgbificccadaaSvN
import Derived.WalkMore
namespace Go.Proofs.Ytclgbificccadaa
namespace Sv
open Go.RowKit Go.Shelf
set_option linter.unusedVariables false
attribute [local go_sem] Oper.semAt_some
set_option maxRecDepth 20000 in
set_option maxHeartbeats 8000000 in
theorem deal_any (N K : Int) (k fan : Nat) (hk : 1 ≤ k) (hk2 : k ≤ 512) (hf1 : 2 ≤ fan) (hf2 : fan ≤ 256) (L M : List T3) (hl : L.length * 24 ≤ 140737488355328) (hv : Vx N K L) (hg : Gd N K k L) (hM : M.length = L.length)
    (xa xb : Option Addr) (ga gb gs : Nat) (Ta Tb : List Value) (hab : ga ≠ gb) (hsa : gs ≠ ga) (hsb : gs ≠ gb) (w : World) (hS : Rv w gs 3 (iv (mx (pn N K) L k k))) (hA : Bx w xa ga L Ta) (hB : Bx w xb gb M Tb) :
    Calls Try.prog 32 #[.slice xa L.length L.length, .slice xb L.length L.length, .slice (some ⟨gs, 0, none⟩) (k + 1) (k + 1), .int .i64 (fan : Int), .func (.func 14) #[rg N K] #[]] w fun e w' =>
      ∃ s M', k ≤ fan ^ s ∧ (∀ t, t < s → fan ^ t < k) ∧ e = .returned (.tuple #[.slice (sw s xa xb) L.length L.length, .bool true]) ∧ M'.length = L.length ∧
        Bx w' (sw s xa xb) (sw s ga gb) (stg (pn N K) k L) (sw s Ta Tb) ∧ Bx w' (sw s xb xa) (sw s gb ga) M' (sw s Tb Ta) ∧ Two ga gb w w' := by
  have HV : Hid (Vx N K L) := hv
  have HG : Hid (Gd N K k L) := hg
  have HS : Hid (∀ W, Two ga gb w W → Rv W gs 3 (iv (mx (pn N K) L k k))) := fun W h => h.rv hS hsa hsb
  have hgs := hS.lt
  have hlt0 : 0 < L.length → ga < w.heap.size ∧ gb < w.heap.size := fun h => ⟨(hA h).2.lt, (hB (by omega)).2.lt⟩
  have HD : Hid (DS N K k fan L xa xb ga gb Ta Tb w 0 1 M w) := by
    refine ⟨by simp, fun t ht => by omega, ?_, hM, hB, Two.refl _ _ _⟩
    rw [stg_one]; exact hA
  clear hv hg hS hA hB
  go_enter Try.func32, Try.ntmps32
  go_wp2
  go_step3
  go_wp2
  go_step3
  go_wp2
  go_loopw [15, 12, 13, 14] (fun l f t y wr => ∃ (s low : Nat) (M : List T3), l = .int .i64 (low : Int) ∧ f = .slice (sw s xa xb) L.length L.length ∧ t = .slice (sw s xb xa) L.length L.length ∧ y = .bool true ∧ DS N K k fan L xa xb ga gb Ta Tb w s low M wr) (fun l _ _ _ _ => k - (intOf l).toNat)
  case atStart => exact ⟨0, 1, M, rfl, rfl, rfl, rfl, HD.out⟩
  case round =>
    clear HD
    obtain ⟨s, low, M, rfl, rfl, rfl, rfl, hD⟩ := hrel
    obtain ⟨hl1, hl2⟩ := hD.low hk hk2 hf1 hf2
    by_cases hlk : low < k
    · have hlk' : (low : Int) < (k : Int) := by omega
      have hRs := HS.out wr hD.2.2.2.2.2
      have hGd : ∀ x ∈ L, pn N K x < k := fun x hx => by have := HG.out x hx; unfold pa at this; unfold pn; omega
      have HDD : Hid (DS N K k fan L xa xb ga gb Ta Tb w s low M wr) := hD
      clear hD
      go_wp2_with (fail)
      refine (openings_any (pn N K) L k low fan gs hk hk2 hl1 hl2 hf1 hf2 hl _ hRs hGd).mono ?_
      rintro e1 w1 ⟨hb1, rfl⟩
      obtain ⟨d1, d2, d3, d4, d5, d6⟩ := HDD.out
      obtain ⟨F, hF⟩ : ∃ F, F = stg (fun x => pn N K x % low) low L := ⟨_, rfl⟩
      obtain ⟨px, hpx⟩ : ∃ px, px = sw s xa xb := ⟨_, rfl⟩
      obtain ⟨py, hpy⟩ : ∃ py, py = sw s xb xa := ⟨_, rfl⟩
      obtain ⟨gx, hgx⟩ : ∃ gx, gx = sw s ga gb := ⟨_, rfl⟩
      obtain ⟨gy, hgy⟩ : ∃ gy, gy = sw s gb ga := ⟨_, rfl⟩
      obtain ⟨Tx, hTx⟩ : ∃ Tx, Tx = sw s Ta Tb := ⟨_, rfl⟩
      obtain ⟨Ty, hTy⟩ : ∃ Ty, Ty = sw s Tb Ta := ⟨_, rfl⟩
      have hxy : gx ≠ gy ∧ ((gx = ga ∧ gy = gb) ∨ (gx = gb ∧ gy = ga)) := by
        rw [hgx, hgy]; unfold sw; split
        · exact ⟨hab, .inl ⟨rfl, rfl⟩⟩
        · exact ⟨hab.symm, .inr ⟨rfl, rfl⟩⟩
      have HLT : Hid (0 < L.length → gx < w.heap.size ∧ gy < w.heap.size) := fun h => by have := hlt0 h; omega
      rw [← hF, ← hpx, ← hgx, ← hTx] at d3
      rw [← hpy, ← hgy, ← hTy] at d5
      have hml : ∀ x ∈ L, pn N K x % low < low := fun x _ => Nat.mod_lt _ (by omega)
      have hFl : F.length = L.length := by rw [hF]; exact stg_len _ _ _ hml
      have HFm : Hid (∀ x ∈ F, x ∈ L) := fun x hx => stg_mem (hF ▸ hx)
      have HFo : Hid (∀ d, opn (fun x => pn N K x / low % fan) F d = opn (fun x => pn N K x / low % fan) L d) := fun d => by
        unfold opn; rw [hF]; exact stg_count_all _ _ _ hml _
      have HFA : Hid (∀ y ∈ F, pn N K y / low % fan < fan) := fun y _ => Nat.mod_lt _ (by omega)
      have HNX : Hid (∀ fa (M2 : List T3) Wx, Dn (fun x => pn N K x / low % fan) F fan F.length M2 → fa = low * fan → Bx Wx py gy M2 Ty → Bx Wx px gx F Tx → Two ga gb w Wx → DS N K k fan L xa xb ga gb Ta Tb w (s + 1) fa F Wx) := by
        rintro fa M2 Wx hdn rfl hb1 hb2 htw
        have e := hdn.done HFA.out
        rw [hF, radix _ _ _ (by omega)] at e
        refine ⟨by rw [d1, Nat.pow_succ], fun t ht => ?_, ?_, hFl, ?_, htw⟩
        · by_cases e : t < s
          · exact d2 t e
          · rw [show t = s by omega, ← d1]; exact hlk
        · rw [sw_succ, sw_succ, sw_succ, ← hpy, ← hgy, ← hTy, ← e]; exact hb1
        · rw [sw_succ, sw_succ, sw_succ, ← hpx, ← hgx, ← hTx]; exact hb2
      have HPX : Hid (px = sw s xa xb) := hpx
      have HPY : Hid (py = sw s xb xa) := hpy
      rw [← hpx, ← hpy]
      have hsz1 := hb1.size
      have hD2 : (iv (om (fun x => pn N K x / low % fan) L fan)).toArray.size = 256 := by simp [iv_len, om_len]
      have hD3 := iv_one (om (fun x => pn N K x / low % fan) L fan)
      have hz := zeroA
      have hZl : (iv (List.replicate 256 0)).toArray.size = 256 := by simp only [iv_len, List.size_toArray, List.length_replicate]
      generalize (iv (List.replicate 256 0)).toArray = ZZ at hz hZl
      have hnew : (w1.alloc (.cells ZZ 76)).heap[w1.heap.size]? = some (.cells ZZ 76 (0, 0)) := by simp [World.alloc, -World.alloc_eq]
      have tV : Two ga gb w ((w1.alloc (.cells ZZ 76)).setRow w1.heap.size (iv (om (fun x => pn N K x / low % fan) L fan)).toArray) :=
        d6.trans (Two.below (below_setRow' _ _ (hb1.alloc hsz1 _) hsz1))
      have rV : Rv ((w1.alloc (.cells ZZ 76)).setRow w1.heap.size (iv (om (fun x => pn N K x / low % fan) L fan)).toArray) w1.heap.size 76 (iv (nx (fun x => pn N K x / low % fan) F fan 0)) := by
        rw [nx_zero _ L F fan HFo.out]
        exact setRow_heap _ _ _ _ 76 (0, 0) hnew
      have bB : Below wr.heap.size wr ((w1.alloc (.cells ZZ 76)).setRow w1.heap.size (iv (om (fun x => pn N K x / low % fan) L fan)).toArray) := below_setRow' _ _ (hb1.alloc hsz1 _) hsz1
      have xV := d3.on bB
      have yV := d5.on bB
      have hwl : w.heap.size ≤ w1.heap.size := Nat.le_trans d6.size hsz1
      generalize hDD : (iv (om (fun x => pn N K x / low % fan) L fan)).toArray = D at *
      clear hDD hF hpx hpy hgx hgy hTx hTy d1 d2 d3 d5 d6 bB hml HDD hRs hGd hb1 HS
      go_wp2_with (refine wpList_store256 rfl _ _ rfl w1.heap.size D ZZ rfl rfl hD2 hZl hD3 hnew ?_)
      generalize (w1.alloc (.cells ZZ 76)).setRow w1.heap.size D = V at *
      clear hz hnew hZl hD2 hD3
      generalize w1.heap.size = gn at *
      go_loopw [36, 14] (fun i y wr => ∃ (j : Nat) (M2 : List T3), j ≤ L.length ∧ i = .int .i64 (j : Int) ∧ y = .bool true ∧ Two ga gb w wr ∧ Bx wr px gx F Tx ∧ Bx wr py gy M2 Ty ∧ Dn (fun x => pn N K x / low % fan) F fan j M2 ∧ Rv wr gn 76 (iv (nx (fun x => pn N K x / low % fan) F fan j))) (fun i _ _ => L.length - (intOf i).toNat)
      case atStart => exact ⟨0, M, Nat.zero_le _, rfl, rfl, tV, xV, yV, Dn.zero _ _ _ (by rw [d4, hFl]), rV⟩
      case round =>
        clear tV xV yV rV
        obtain ⟨j, M2, hj, rfl, rfl, tW, xW, yW, hDn, rW⟩ := hrel
        by_cases hjl : j < L.length
        · obtain ⟨hx1, hy1⟩ := HLT.out (by omega)
          obtain ⟨e, he⟩ : ∃ e, F[j]? = some e := ⟨F[j]'(by omega), List.getElem?_eq_getElem (by omega)⟩
          obtain ⟨rfl, _⟩ := xW (by omega)
          obtain ⟨rfl, _⟩ := yW (by rw [hDn.1]; omega)
          obtain ⟨x0, x1, x2⟩ := xW.cells he
          have hjl' : (j : Int) < (L.length : Int) := by omega
          have hmem := HFm.out e (List.mem_of_getElem? he)
          obtain ⟨v1, v2, v3⟩ := HV.out e hmem
          obtain ⟨g1, g2⟩ := HG.out e hmem
          obtain ⟨p, hp⟩ : ∃ p : Nat, pt N K e.1 = (p : Int) := ⟨(pt N K e.1).toNat, by unfold pa at g1; omega⟩
          have hpk : p < k := by unfold pa at g2; omega
          have hpn : pn N K e = p := by unfold pn; rw [hp]; rfl
          go_wp2_with (fail)
          refine (byTo_any N K _ _ _ v1 v2 v3 _).mono ?_
          rintro e1 w2 ⟨rfl, hb2⟩
          rw [hp]
          have bb : Below wr.heap.size wr w2 := (b1 wr 44 _).trans (hb2.mono (by simp))
          have tW2 : Two ga gb w w2 := tW.trans (Two.below bb)
          have xW2 := xW.on bb
          have yW2 := yW.on bb
          have rW2 := rW.on bb rW.lt
          have bx : Rv w2 wr.heap.size 44 [Value.int .u32 e.1, Value.int .u64 e.2.1, Value.int .u64 e.2.2] := (Rv.new wr 44 _).on hb2 (by simp)
          have hwb := tW.size
          have hgb := rW.lt
          generalize wr.heap.size = B at *
          clear bb xW yW rW tW hb2 x0 x1 x2 v1 v2 v3 g1 g2
          have y0 : w2.cell? ⟨B, 0, none⟩ = some (.int .u32 e.1) := bx.cell rfl
          have y1 : w2.cell? ⟨B, 1, none⟩ = some (.int .u64 e.2.1) := bx.cell rfl
          have y2 : w2.cell? ⟨B, 2, none⟩ = some (.int .u64 e.2.2) := bx.cell rfl
          obtain ⟨d, hd⟩ : ∃ d, pn N K e / low % fan = d := ⟨_, rfl⟩
          have hdf : d < fan := by rw [← hd]; exact Nat.mod_lt _ (by omega)
          have O1 := nx_get (fun x => pn N K x / low % fan) F fan j d (by omega)
          rw [if_pos hdf] at O1
          have O2 := Dn.lt (fan := fan) he (by exact Nat.mod_lt _ (by omega)) HFA.out
          have O3 := hDn.next he (by exact Nat.mod_lt _ (by omega))
          have O4 := nx_next (fun x => pn N K x / low % fan) F fan j e he (by exact Nat.mod_lt _ (by omega)) hf2
          simp only [hd] at O2 O3 O4
          obtain ⟨O, hO⟩ : ∃ O, O = opn (fun x => pn N K x / low % fan) F d + (F.take j).countP (fun y => pn N K y / low % fan == d) := ⟨_, rfl⟩
          rw [← hO] at O1 O2 O3 O4
          have c9 := rW2.cell (iv_get O1)
          have hMl := hDn.1
          obtain ⟨eo, heo⟩ : ∃ eo, M2[O]? = some eo := ⟨M2[O]'(by omega), List.getElem?_eq_getElem (by omega)⟩
          obtain ⟨o0, o1, o2⟩ := yW2.cells heo
          have fr := (yW2 (by omega)).2
          have f0 := fr.frozen (O * 3)
          have f1 := fr.frozen (O * 3 + 1)
          have f2 := fr.frozen (O * 3 + 2)
          obtain ⟨W3, hW3⟩ : ∃ W3, W3 = ((w2.setCell ⟨gy, O * 3, none⟩ (.int .u32 e.1)).setCell ⟨gy, O * 3 + 1, none⟩ (.int .u64 e.2.1)).setCell ⟨gy, O * 3 + 2, none⟩ (.int .u64 e.2.2) := ⟨_, rfl⟩
          have HW3 : Hid (W3 = ((w2.setCell ⟨gy, O * 3, none⟩ (.int .u32 e.1)).setCell ⟨gy, O * 3 + 1, none⟩ (.int .u64 e.2.1)).setCell ⟨gy, O * 3 + 2, none⟩ (.int .u64 e.2.2)) := hW3
          have yW3 : Bx W3 (some ⟨gy, 0, none⟩) gy (M2.set O e) Ty := by rw [hW3]; exact yW2.set3 (by omega) e
          have oth : ∀ g, g ≠ gy → W3.heap[g]? = w2.heap[g]? := fun g hg => by
            rw [hW3]; exact (Below.heap_setCell _ _ _ g hg).trans ((Below.heap_setCell _ _ _ g hg).trans (Below.heap_setCell _ _ _ g hg))
          have xW3 : Bx W3 (some ⟨gx, 0, none⟩) gx F Tx := xW2.of (fun _ => oth gx hxy.1)
          have rW3 : Rv W3 gn 76 (iv (nx (fun x => pn N K x / low % fan) F fan j)) := rW2.of (oth gn (by omega))
          have tW3 : Two ga gb w W3 := by
            rw [hW3]
            refine ((tW2.set _ _ ?_).set _ _ ?_).set _ _ ?_ <;> (show gy = ga ∨ gy = gb ∨ w.heap.size ≤ gy; omega)
          have c10 := rW3.cell (iv_get O1)
          have f10 := rW3.frozen d
          have HR : Hid (Two ga gb w (W3.setCell ⟨gn, d, none⟩ (.int .i64 ((O : Int) + 1))) ∧ Bx (W3.setCell ⟨gn, d, none⟩ (.int .i64 ((O : Int) + 1))) (some ⟨gx, 0, none⟩) gx F Tx ∧ Bx (W3.setCell ⟨gn, d, none⟩ (.int .i64 ((O : Int) + 1))) (some ⟨gy, 0, none⟩) gy (M2.set O e) Ty ∧ Dn (fun x => pn N K x / low % fan) F fan (j + 1) (M2.set O e) ∧ Rv (W3.setCell ⟨gn, d, none⟩ (.int .i64 ((O : Int) + 1))) gn 76 (iv (nx (fun x => pn N K x / low % fan) F fan (j + 1)))) := by
            refine ⟨tW3.set _ _ (.inr (.inr (by show w.heap.size ≤ gn; omega))), xW3.of (fun _ => Below.heap_setCell _ _ _ gx (by show gx ≠ gn; omega)), yW3.of (fun _ => Below.heap_setCell _ _ _ gy (by show gy ≠ gn; omega)), O3, ?_⟩
            have h := rW3.set d (.int .i64 ((O : Int) + 1))
            rw [iv_set, O4] at h
            exact h
          rw [hpn] at hd
          obtain ⟨q, hq⟩ : ∃ q, q = p / low := ⟨_, rfl⟩
          rw [← hq] at hd
          have hql : q ≤ p := by rw [hq]; exact Nat.div_le_self _ _
          have t1 : (p : Int).tdiv (low : Int) = (q : Int) := by rw [hq]; exact (Int.ofNat_tdiv p low).symm
          have t2 : (q : Int).tmod (fan : Int) = (d : Int) := by rw [← hd]; exact (Int.ofNat_tmod q fan).symm
          have z1 : ((low : Int) == 0) = false := by simp; omega
          have z2 : ((fan : Int) == 0) = false := by simp; omega
          have n1 : ¬ (d : Int) < 0 := by omega
          have n2 : ((O : Int) == (L.length : Int)) = false := by simp; omega
          have n3 : (O : Int) < (L.length : Int) := by omega
          have n4 : (d : Int) < 256 := by omega
          clear hW3 yW3 xW3 rW3 tW3 oth fr bx tW2 xW2 yW2 rW2 O1 O2 O3 O4 hO hd hq hp hpn heo he hmem hDn hMl HNX HFm HFo HFA HV HG HLT
          go_wp2
          apply wp_cut (fun w' => w' = W3.drew)
          case h =>
            go_region
            all_goals exact ⟨rfl, by rw [HW3.out]⟩
          case hq =>
            rintro w9 rfl
            clear y0 y1 y2 c9 o0 o1 o2 f0 f1 f2
            go_wp2
            exact ⟨⟨j + 1, _, by omega, by go_num, rfl, HR.out.1.drew, HR.out.2.1, HR.out.2.2.1, HR.out.2.2.2.1, HR.out.2.2.2.2⟩, by simp [intOf]; omega⟩
        · obtain rfl : j = L.length := by omega
          have hlo : low * fan ≤ 131072 := by
            have : low * fan ≤ 512 * 256 := Nat.mul_le_mul (by omega) hf2
            omega
          have hlg : low < low * fan := by
            have : low * 2 ≤ low * fan := Nat.mul_le_mul_left low hf1
            omega
          obtain ⟨lf, hlf⟩ : ∃ lf, lf = low * fan := ⟨_, rfl⟩
          rw [← hlf] at hlo hlg
          have hlm : (low : Int) * (fan : Int) = (lf : Int) := by rw [hlf]; push_cast; rfl
          have HN2 := HNX.out lf M2 wr (by rw [hFl]; exact hDn) hlf yW xW tW
          have HNX2 : Hid (DS N K k fan L xa xb ga gb Ta Tb w (s + 1) lf F wr) := HN2
          clear HN2 HNX hlf xW yW tW rW hDn HFm HFo HFA HV HG HLT
          go_wp2
          exact ⟨⟨s + 1, lf, F, by go_num, by rw [sw_succ, ← HPY.out], by rw [sw_succ, ← HPX.out], rfl, HNX2.out⟩, by simp [intOf]; omega⟩
    · have hlk' : ¬ (low : Int) < (k : Int) := by omega
      obtain ⟨d1, d2, d3, d4, d5, d6⟩ := hD
      have hGd : ∀ x ∈ L, pn N K x < k := fun x hx => by have := HG.out x hx; unfold pa at this; unfold pn; omega
      rw [stg_all (pn N K) low k (by omega) L hGd] at d3
      have HE : Hid (k ≤ fan ^ s ∧ (∀ t, t < s → fan ^ t < k)) := ⟨by rw [← d1]; omega, d2⟩
      clear hGd d1 d2 HG HV HS
      go_wp2
      go_ret2
      exact ⟨s, M, HE.out.1, HE.out.2, rfl, d4, d3, d5, d6⟩
end Sv
end Go.Proofs.Ytclgbificccadaa
