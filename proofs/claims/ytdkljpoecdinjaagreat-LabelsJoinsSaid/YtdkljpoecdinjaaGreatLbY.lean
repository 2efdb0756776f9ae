/- The reference: JoinAll, Join, Meet, Flows; one contract for each function, whatever is asked. -/
import Derived.Test.YtdkljpoecdinjaaGreatLbR
namespace Go.Proofs.YtdkljpoecdinjaaGreat
open Go.RowKit

set_option maxRecDepth 100000 in
set_option maxHeartbeats 4000000 in
theorem rjoinall_ok (v u : Value) (ns : List ByteArray) (up : List UInt8) (ls : List Nat) (w : World) (hv : RdL w.heap.size w v ns up) (hz : RdN w.heap.size w u ls) (hg : GL ns up ls) :
    Calls Tryz.prog 26 #[v, u] w fun e w' => e = .returned (.int .i64 (jn (le up) up.length (endF (ge up) up.length up.length) ls : Nat)) ∧ Below w.heap.size w w' := by
  have HL := Lib.hid hv
  obtain ⟨⟨vn, vu, rfl, hS, hB⟩, hsz⟩ := hv
  obtain ⟨q1, cap, rfl, hc, hc2, h⟩ := hS
  obtain ⟨q, cap', rfl, hc', hc2', h'⟩ := hB
  clear h h' hsz
  have HZ := Lib.hid hz
  obtain ⟨a, c, rfl, hl, hl2, h⟩ := hz
  clear h
  have HI := Lib.hid (Bx.new HL.out)
  have hu8 : up.length ≤ 8 := by have := hg.good.most; have := hg.good.len; omega
  have hn0 : 0 < up.length := by have := hg.good.pos; have := hg.good.len; omega
  have h64 := hg.most
  have HG := Lib.hid hg
  clear hg
  have hbol : endF (ge up) up.length up.length < up.length := HG.out.good.ords.2.end_lt _ (Nat.le_refl _) hn0
  have HBo : Hid (∀ W, RdL W.heap.size W (.agg #[.slice q1 ns.length cap, .slice q up.length cap']) ns up → Calls Tryz.prog 50 #[.agg #[.slice q1 ns.length cap, .slice q up.length cap']] W (fun e w' => e = .returned (.tuple #[.int .i64 (endF (ge up) up.length up.length : Nat), .int .i64 0]) ∧ Below W.heap.size W w')) := fun W hW => rbottom_ok _ ns up W hW HG.out.good
  generalize endF (ge up) up.length up.length = bo at HBo hbol
  clear hn0
  have hx0 := HI.out.x0
  have hx1 := HI.out.x1
  go_enter Tryz.func26, Tryz.ntmps26
  go_wp2_with (go_at_call 50; refine (HBo.out _ HI.out.rd).mono ?_; rintro e w8 ⟨rfl, hbn⟩; clear hx0 hx1; have HI2 := Lib.hid (HI.out.next hbn); clear HI hbn; have HI := HI2; clear HI2; have hx0 := HI.out.x0; have hx1 := HI.out.x1)
  have HK : Hid (Kl w (.slice q1 ns.length cap) (.slice q up.length cap') (.slice a ls.length c) ns up ls w8) := ⟨HI.out, HZ.out.next HI.out.bel⟩
  clear HI hx0 hx1
  go_loopg [5, 7] ls.length (fun g r i W => ∃ k t : Nat, k + g = ls.length ∧ i = .int .i64 k ∧ r = .int .i64 t ∧ t < up.length ∧ Kl w (.slice q1 ns.length cap) (.slice q up.length cap') (.slice a ls.length c) ns up ls W ∧ Hid (jn (le up) up.length bo (ls.take k) = t))
  case atStart => exact ⟨0, bo, by omega, rfl, rfl, hbol, HK.out, rfl⟩
  case round =>
    clear HK
    obtain ⟨k, t, hkg, rfl, rfl, htl, hkl, hq⟩ := hrel
    have HK := Lib.hid hkl; clear hkl
    cases gk with
    | zero =>
      have hkz : ¬ ((k : Int) < (ls.length : Int)) := by omega
      have HM : Hid (jn (le up) up.length bo ls = t) := by
        have := hq.out
        rwa [List.take_of_length_le (by omega)] at this
      clear hq
      go_wp2_with fail
      go_ret
      exact ⟨ret_int (by rw [HM.out]), HK.out.1.bel⟩
    | succ g =>
      have hlt : (k : Int) < (ls.length : Int) := by omega
      have hk : k < ls.length := by omega
      obtain ⟨bb, ob, rfl, V1, V2⟩ := HK.out.2.at k hk
      clear V1 V2
      have hxl := HG.out.all ls[k] (List.getElem_mem hk)
      have HJ : Hid (jn (le up) up.length bo (ls.take (k + 1)) = J (le up) up.length t ls[k]) := by unfold Hid; rw [jn_take hk, hq.out]
      obtain ⟨x, hxe⟩ : ∃ x, ls[k] = x := ⟨_, rfl⟩
      have HXe := Lib.hid hxe
      rw [hxe] at hxl HJ
      clear hxe hq
      have hjl := HG.out.good.ords.1.J_lt htl hxl
      have HR : Hid (∀ W, RdL W.heap.size W (.agg #[.slice q1 ns.length cap, .slice q up.length cap']) ns up → Calls Tryz.prog 51 #[.agg #[.slice q1 ns.length cap, .slice q up.length cap'], .int .i64 (t : Nat), .int .i64 (x : Nat)] W (fun e w' => e = .returned (.tuple #[.int .i64 (J (le up) up.length t x : Nat), .int .i64 0]) ∧ Below W.heap.size W w')) := fun W hW => rjoin_ok _ ns up _ _ W hW HG.out.good htl hxl
      generalize J (le up) up.length t x = t2 at HJ HR hjl
      go_wp2_with fail
      have hS := HK.out
      clear HK
      go_region_held3 (fun W => Kl w (.slice q1 ns.length cap) (.slice q up.length cap') (.slice (some ⟨bb, ob, none⟩) ls.length c) ns up ls W ∧ W.cell? ⟨w.heap.size, 0, none⟩ = some (.slice q1 ns.length cap) ∧ W.cell? ⟨w.heap.size, 1, none⟩ = some (.slice q up.length cap') ∧ W.cell? ⟨bb, ob + k, none⟩ = some (.int .i64 (x : Int)) ∧ W.cell? ⟨bb, ob + k, none⟩ = some (.int .i64 (x : Int)))
        ((first | exact kc5n (by assumption) hbn hk hk HXe.out HXe.out | exact kc5d hS hk hk HXe.out HXe.out))
        ((go_at_call 51; refine (HR.out _ (kl_rd (by assumption))).mono ?_; rintro e wn ⟨rfl, hbn⟩))
      have HE := Lib.hid (by assumption : Kl _ _ _ _ _ _ _ _ ∧ _).1
      go_wp2_with fail
      go_roundg g
      case measure => omega
      case rel => exact ⟨k + 1, t2, by omega, by go_num, rfl, hjl, HE.out, HJ⟩

set_option maxRecDepth 100000 in
set_option maxHeartbeats 4000000 in
theorem rjoin4_ok (v u : Value) (ns : List ByteArray) (up : List UInt8) (ls : List Nat) (w : World) (hv : RdL w.heap.size w v ns up) (hz : RdN w.heap.size w u ls) (hg : GL ns up ls) :
    Calls Tryz.prog 9 #[v, u] w fun e w' => e = .returned (.tuple #[.int .i64 (jn (le up) up.length (endF (ge up) up.length up.length) ls : Nat), .int .i64 0]) ∧ Below w.heap.size w w' := by
  have HL := Lib.hid hv
  obtain ⟨⟨vn, vu, rfl, hS, hB⟩, hsz⟩ := hv
  obtain ⟨q1, cap, rfl, hc, hc2, h⟩ := hS
  obtain ⟨q, cap', rfl, hc', hc2', h'⟩ := hB
  clear h h' hsz
  have HZ := Lib.hid hz
  obtain ⟨a, c, rfl, hl, hl2, h⟩ := hz
  clear h
  have HI := Lib.hid (Bx.new HL.out)
  have hu8 : up.length ≤ 8 := by have := hg.good.most; have := hg.good.len; omega
  have hn0 : 0 < up.length := by have := hg.good.pos; have := hg.good.len; omega
  have h64 := hg.most
  have HG := Lib.hid hg
  clear hg
  go_enter Tryz.func9, Tryz.ntmps9
  go_wp2_with (first
    | (go_at_call 7; refine (rcheck4_ok _ _ ns up ls _ HI.out.rd (HZ.out.next HI.out.bel) HG.out).mono ?_; rintro e w' ⟨rfl, hbn⟩; have HI2 := Lib.hid (HI.out.next hbn); clear HI hbn; have HI := HI2; clear HI2; have hx0 := HI.out.x0; have hx1 := HI.out.x1)
    | (go_at_call 26; refine (rjoinall_ok _ _ ns up ls _ HI.out.rd (HZ.out.next HI.out.bel) HG.out).mono ?_; rintro e w' ⟨rfl, hbn⟩; clear hx0 hx1; have HI2 := Lib.hid (HI.out.next hbn); clear HI hbn; have HI := HI2; clear HI2; have hx0 := HI.out.x0; have hx1 := HI.out.x1))
  go_ret2
  exact ⟨rfl, HI.out.bel⟩

set_option maxRecDepth 100000 in
set_option maxHeartbeats 4000000 in
theorem rmeet4_ok (v u : Value) (ns : List ByteArray) (up : List UInt8) (ls : List Nat) (w : World) (hv : RdL w.heap.size w v ns up) (hz : RdN w.heap.size w u ls) (hg : GL ns up ls) :
    Calls Tryz.prog 11 #[v, u] w fun e w' => e = .returned (.tuple #[.int .i64 (jn (ge up) up.length (endF (le up) up.length up.length) ls : Nat), .int .i64 0]) ∧ Below w.heap.size w w' := by
  have HL := Lib.hid hv
  obtain ⟨⟨vn, vu, rfl, hS, hB⟩, hsz⟩ := hv
  obtain ⟨q1, cap, rfl, hc, hc2, h⟩ := hS
  obtain ⟨q, cap', rfl, hc', hc2', h'⟩ := hB
  clear h h' hsz
  have HZ := Lib.hid hz
  obtain ⟨a, c, rfl, hl, hl2, h⟩ := hz
  clear h
  have HI := Lib.hid (Bx.new HL.out)
  have hu8 : up.length ≤ 8 := by have := hg.good.most; have := hg.good.len; omega
  have hn0 : 0 < up.length := by have := hg.good.pos; have := hg.good.len; omega
  have h64 := hg.most
  have HG := Lib.hid hg
  clear hg
  have hbol : endF (le up) up.length up.length < up.length := HG.out.good.ords.1.end_lt _ (Nat.le_refl _) hn0
  have HBo : Hid (∀ W, RdL W.heap.size W (.agg #[.slice q1 ns.length cap, .slice q up.length cap']) ns up → Calls Tryz.prog 29 #[.agg #[.slice q1 ns.length cap, .slice q up.length cap']] W (fun e w' => e = .returned (.tuple #[.int .i64 (endF (le up) up.length up.length : Nat), .int .i64 0]) ∧ Below W.heap.size W w')) := fun W hW => rtop_ok _ ns up W hW HG.out.good
  generalize endF (le up) up.length up.length = bo at HBo hbol
  clear hn0
  go_enter Tryz.func11, Tryz.ntmps11
  go_wp2_with (first
    | (go_at_call 7; refine (rcheck4_ok _ _ ns up ls _ HI.out.rd (HZ.out.next HI.out.bel) HG.out).mono ?_; rintro e w' ⟨rfl, hbn⟩; have HI2 := Lib.hid (HI.out.next hbn); clear HI hbn; have HI := HI2; clear HI2; have hx0 := HI.out.x0; have hx1 := HI.out.x1)
    | (go_at_call 29; refine (HBo.out _ HI.out.rd).mono ?_; rintro e w8 ⟨rfl, hbn⟩; clear hx0 hx1; have HI2 := Lib.hid (HI.out.next hbn); clear HI hbn; have HI := HI2; clear HI2; have hx0 := HI.out.x0; have hx1 := HI.out.x1))
  have HK : Hid (Kl w (.slice q1 ns.length cap) (.slice q up.length cap') (.slice a ls.length c) ns up ls w8) := ⟨HI.out, HZ.out.next HI.out.bel⟩
  clear HI hx0 hx1
  go_loopg [8, 10] ls.length (fun g r i W => ∃ k t : Nat, k + g = ls.length ∧ i = .int .i64 k ∧ r = .int .i64 t ∧ t < up.length ∧ Kl w (.slice q1 ns.length cap) (.slice q up.length cap') (.slice a ls.length c) ns up ls W ∧ Hid (jn (ge up) up.length bo (ls.take k) = t))
  case atStart => exact ⟨0, bo, by omega, rfl, rfl, hbol, HK.out, rfl⟩
  case round =>
    clear HK
    obtain ⟨k, t, hkg, rfl, rfl, htl, hkl, hq⟩ := hrel
    have HK := Lib.hid hkl; clear hkl
    cases gk with
    | zero =>
      have hkz : ¬ ((k : Int) < (ls.length : Int)) := by omega
      have HM : Hid (jn (ge up) up.length bo ls = t) := by
        have := hq.out
        rwa [List.take_of_length_le (by omega)] at this
      clear hq
      go_wp2_with fail
      go_ret2
      exact ⟨ret_two (by rw [HM.out]; rfl) rfl, HK.out.1.bel⟩
    | succ g =>
      have hlt : (k : Int) < (ls.length : Int) := by omega
      have hk : k < ls.length := by omega
      obtain ⟨bb, ob, rfl, V1, V2⟩ := HK.out.2.at k hk
      clear V1 V2
      have hxl := HG.out.all ls[k] (List.getElem_mem hk)
      have HJ : Hid (jn (ge up) up.length bo (ls.take (k + 1)) = J (ge up) up.length t ls[k]) := by unfold Hid; rw [jn_take hk, hq.out]
      obtain ⟨x, hxe⟩ : ∃ x, ls[k] = x := ⟨_, rfl⟩
      have HXe := Lib.hid hxe
      rw [hxe] at hxl HJ
      clear hxe hq
      have hjl := HG.out.good.ords.2.J_lt htl hxl
      have HR : Hid (∀ W, RdL W.heap.size W (.agg #[.slice q1 ns.length cap, .slice q up.length cap']) ns up → Calls Tryz.prog 30 #[.agg #[.slice q1 ns.length cap, .slice q up.length cap'], .int .i64 (t : Nat), .int .i64 (x : Nat)] W (fun e w' => e = .returned (.tuple #[.int .i64 (J (ge up) up.length t x : Nat), .int .i64 0]) ∧ Below W.heap.size W w')) := fun W hW => rmeet_ok _ ns up _ _ W hW HG.out.good htl hxl
      generalize J (ge up) up.length t x = t2 at HJ HR hjl
      go_wp2_with fail
      have hS := HK.out
      clear HK
      go_region_held3 (fun W => Kl w (.slice q1 ns.length cap) (.slice q up.length cap') (.slice (some ⟨bb, ob, none⟩) ls.length c) ns up ls W ∧ W.cell? ⟨w.heap.size, 0, none⟩ = some (.slice q1 ns.length cap) ∧ W.cell? ⟨w.heap.size, 1, none⟩ = some (.slice q up.length cap') ∧ W.cell? ⟨bb, ob + k, none⟩ = some (.int .i64 (x : Int)) ∧ W.cell? ⟨bb, ob + k, none⟩ = some (.int .i64 (x : Int)))
        ((first | exact kc5n (by assumption) hbn hk hk HXe.out HXe.out | exact kc5d hS hk hk HXe.out HXe.out))
        ((go_at_call 30; refine (HR.out _ (kl_rd (by assumption))).mono ?_; rintro e wn ⟨rfl, hbn⟩))
      have HE := Lib.hid (by assumption : Kl _ _ _ _ _ _ _ _ ∧ _).1
      go_wp2_with fail
      go_roundg g
      case measure => omega
      case rel => exact ⟨k + 1, t2, by omega, by go_num, rfl, hjl, HE.out, HJ⟩

set_option maxRecDepth 100000 in
set_option maxHeartbeats 1000000 in
theorem rflows4_bad (v u : Value) (ns : List ByteArray) (up : List UInt8) (zs : List Int) (t : Int) (w : World) (hv : RdL w.heap.size w v ns up) (hz : RdI w.heap.size w u zs) (hk : ((lck ns up zs).2 != 0) = true) :
    Calls Tryz.prog 13 #[v, u, .int .i64 t] w fun e w' => e = .returned (.tuple #[.int .i64 (lck ns up zs).1, .int .i64 (lck ns up zs).2]) ∧ Below w.heap.size w w' := by
  have HL := Lib.hid hv
  obtain ⟨⟨vn, vu, rfl, hS, hB⟩, hsz⟩ := hv
  obtain ⟨q1, cap, rfl, hc, hc2, h⟩ := hS
  obtain ⟨q, cap', rfl, hc', hc2', h'⟩ := hB
  clear h h' hsz
  have HZ := Lib.hid hz
  obtain ⟨a, c, rfl, hl, hl2, h⟩ := hz
  clear h
  have HI := Lib.hid (Bx.new HL.out)
  go_enter Tryz.func13, Tryz.ntmps13
  go_wp2_with (go_at_call 7; refine (rcheck4_any _ _ ns up zs _ HI.out.rd (HZ.out.next HI.out.bel)).mono ?_; rintro e w' ⟨rfl, hbn⟩; have HI2 := Lib.hid (HI.out.next hbn); clear HI hbn; have HI := HI2; clear HI2)
  go_ret2
  exact ⟨rfl, HI.out.bel⟩

set_option maxRecDepth 100000 in
set_option maxHeartbeats 1000000 in
theorem rflows4_rng (v u : Value) (ns : List ByteArray) (up : List UInt8) (ls : List Nat) (t : Int) (w : World) (hv : RdL w.heap.size w v ns up) (hz : RdN w.heap.size w u ls) (hg : GL ns up ls) (ht : isL ns.length t = false) :
    Calls Tryz.prog 13 #[v, u, .int .i64 t] w fun e w' => e = .returned (.tuple #[.int .i64 (-1), .int .i64 7]) ∧ Below w.heap.size w w' := by
  have HL := Lib.hid hv
  obtain ⟨⟨vn, vu, rfl, hS, hB⟩, hsz⟩ := hv
  obtain ⟨q1, cap, rfl, hc, hc2, h⟩ := hS
  obtain ⟨q, cap', rfl, hc', hc2', h'⟩ := hB
  clear h h' hsz
  have HZ := Lib.hid hz
  obtain ⟨a, c, rfl, hl, hl2, h⟩ := hz
  clear h
  have HI := Lib.hid (Bx.new HL.out)
  have HG := Lib.hid hg
  clear hg
  by_cases c1 : t < 0
  · clear ht
    go_enter Tryz.func13, Tryz.ntmps13
    go_wp2_with (go_at_call 7; refine (rcheck4_ok _ _ ns up ls _ HI.out.rd (HZ.out.next HI.out.bel) HG.out).mono ?_; rintro e w' ⟨rfl, hbn⟩; have HI2 := Lib.hid (HI.out.next hbn); clear HI hbn; have HI := HI2; clear HI2; have hx0 := HI.out.x0; have hx1 := HI.out.x1)
    go_ret2
    exact ⟨rfl, HI.out.bel⟩
  · have c2 : (ns.length : Int) ≤ t := by
      by_cases c : (ns.length : Int) ≤ t
      · exact c
      · rw [isL_t c1 c] at ht; cases ht
    clear ht
    go_enter Tryz.func13, Tryz.ntmps13
    go_wp2_with (go_at_call 7; refine (rcheck4_ok _ _ ns up ls _ HI.out.rd (HZ.out.next HI.out.bel) HG.out).mono ?_; rintro e w' ⟨rfl, hbn⟩; have HI2 := Lib.hid (HI.out.next hbn); clear HI hbn; have HI := HI2; clear HI2; have hx0 := HI.out.x0; have hx1 := HI.out.x1)
    go_ret2
    exact ⟨rfl, HI.out.bel⟩

set_option maxRecDepth 100000 in
set_option maxHeartbeats 4000000 in
theorem rflows4_ok (v u : Value) (ns : List ByteArray) (up : List UInt8) (ls : List Nat) (t : Nat) (w : World) (hv : RdL w.heap.size w v ns up) (hz : RdN w.heap.size w u ls) (hg : GL ns up ls) (ht : t < up.length) :
    Calls Tryz.prog 13 #[v, u, .int .i64 t] w fun e w' => e = .returned (.tuple #[.int .i64 (flV up ls t).1, .int .i64 (flV up ls t).2]) ∧ Below w.heap.size w w' := by
  have HL := Lib.hid hv
  obtain ⟨⟨vn, vu, rfl, hS, hB⟩, hsz⟩ := hv
  obtain ⟨q1, cap, rfl, hc, hc2, h⟩ := hS
  obtain ⟨q, cap', rfl, hc', hc2', h'⟩ := hB
  clear h h' hsz
  have HZ := Lib.hid hz
  obtain ⟨a, c, rfl, hl, hl2, h⟩ := hz
  clear h
  have HI := Lib.hid (Bx.new HL.out)
  have hu8 : up.length ≤ 8 := by have := hg.good.most; have := hg.good.len; omega
  have hn0 : 0 < up.length := by have := hg.good.pos; have := hg.good.len; omega
  have h64 := hg.most
  have HG := Lib.hid hg
  clear hg
  have htn : (t : Int) < (ns.length : Int) := by have := HG.out.good.len; omega
  have ht0 : ¬ ((t : Int) < 0) := by omega
  have hd1 : decide (ns.length ≤ t) = false := decide_eq_false (by have := HG.out.good.len; omega)
  go_enter Tryz.func13, Tryz.ntmps13
  go_wp2_with (go_at_call 7; refine (rcheck4_ok _ _ ns up ls _ HI.out.rd (HZ.out.next HI.out.bel) HG.out).mono ?_; rintro e w8 ⟨rfl, hbn⟩; have HI2 := Lib.hid (HI.out.next hbn); clear HI hbn; have HI := HI2; clear HI2; have hx0 := HI.out.x0; have hx1 := HI.out.x1)
  have HK : Hid (Kl w (.slice q1 ns.length cap) (.slice q up.length cap') (.slice a ls.length c) ns up ls w8) := ⟨HI.out, HZ.out.next HI.out.bel⟩
  clear HI hx0 hx1
  go_loopg [10] ls.length (fun g i W => ∃ k : Nat, k + g = ls.length ∧ i = .int .i64 k ∧ Kl w (.slice q1 ns.length cap) (.slice q up.length cap') (.slice a ls.length c) ns up ls W ∧ Hid ((List.range k).find? (fl1 up ls t) = none))
  case atStart => exact ⟨0, by omega, rfl, HK.out, rfl⟩
  case round =>
    clear HK
    obtain ⟨k, hkg, rfl, hkl, hq⟩ := hrel
    have HK := Lib.hid hkl; clear hkl
    cases gk with
    | zero =>
      have hkz : ¬ ((k : Int) < (ls.length : Int)) := by omega
      have HM : Hid (flV up ls t = (0, 0)) := flV_no (by
        have := hq.out
        rwa [show k = ls.length by omega] at this)
      clear hq
      go_wp2_with fail
      go_ret2
      exact ⟨ret_two (by rw [HM.out]; rfl) (by rw [HM.out]; rfl), HK.out.1.bel⟩
    | succ g =>
      have hlt : (k : Int) < (ls.length : Int) := by omega
      have hk : k < ls.length := by omega
      obtain ⟨bb, ob, rfl, V1, V2⟩ := HK.out.2.at k hk
      clear V1 V2
      have hxl := HG.out.all ls[k] (List.getElem_mem hk)
      have HN : Hid (fl1 up ls t k = !le up ls[k] t) := fl1_get hk
      obtain ⟨x, hxe⟩ : ∃ x, ls[k] = x := ⟨_, rfl⟩
      have HXe := Lib.hid hxe
      rw [hxe] at hxl HN
      clear hxe
      cases c1 : le up x t with
      | true =>
        have HQ := Lib.hid (find_succ hq.out (by rw [HN.out, c1]; rfl))
        have HB1 : Hid (∀ W, RdL W.heap.size W (.agg #[.slice q1 ns.length cap, .slice q up.length cap']) ns up → Calls Tryz.prog 33 #[.agg #[.slice q1 ns.length cap, .slice q up.length cap'], .int .i64 (x : Nat), .int .i64 (t : Nat)] W (fun e w' => e = .returned (.bool true) ∧ Below W.heap.size W w')) := fun W hW => by have := rbel_any _ ns up x t W hW (by omega) (by omega); rwa [c1] at this
        clear c1
        go_wp2_with fail
        have hS := HK.out
        clear HK
        go_region_held3 (fun W => Kl w (.slice q1 ns.length cap) (.slice q up.length cap') (.slice (some ⟨bb, ob, none⟩) ls.length c) ns up ls W ∧ W.cell? ⟨w.heap.size, 0, none⟩ = some (.slice q1 ns.length cap) ∧ W.cell? ⟨w.heap.size, 1, none⟩ = some (.slice q up.length cap') ∧ W.cell? ⟨bb, ob + k, none⟩ = some (.int .i64 (x : Int)) ∧ W.cell? ⟨bb, ob + k, none⟩ = some (.int .i64 (x : Int)))
          ((first | exact kc5n (by assumption) hbn hk hk HXe.out HXe.out | exact kc5d hS hk hk HXe.out HXe.out))
          ((go_at_call 33; refine (HB1.out _ (kl_rd (by assumption))).mono ?_; rintro e wn ⟨rfl, hbn⟩))
        have HE := Lib.hid (by assumption : Kl _ _ _ _ _ _ _ _ ∧ _).1
        go_wp2_with fail
        go_roundg g
        case measure => omega
        case rel => exact ⟨k + 1, by omega, by go_num, HE.out, HQ⟩
      | false =>
        have HM : Hid (flV up ls t = ((k : Int), 25)) := flV_at (find_at hq.out (by rw [HN.out, c1]; rfl) hk)
        have HB1 : Hid (∀ W, RdL W.heap.size W (.agg #[.slice q1 ns.length cap, .slice q up.length cap']) ns up → Calls Tryz.prog 33 #[.agg #[.slice q1 ns.length cap, .slice q up.length cap'], .int .i64 (x : Nat), .int .i64 (t : Nat)] W (fun e w' => e = .returned (.bool false) ∧ Below W.heap.size W w')) := fun W hW => by have := rbel_any _ ns up x t W hW (by omega) (by omega); rwa [c1] at this
        clear c1
        go_wp2_with fail
        have hS := HK.out
        clear HK
        go_region_held3 (fun W => Kl w (.slice q1 ns.length cap) (.slice q up.length cap') (.slice (some ⟨bb, ob, none⟩) ls.length c) ns up ls W ∧ W.cell? ⟨w.heap.size, 0, none⟩ = some (.slice q1 ns.length cap) ∧ W.cell? ⟨w.heap.size, 1, none⟩ = some (.slice q up.length cap') ∧ W.cell? ⟨bb, ob + k, none⟩ = some (.int .i64 (x : Int)) ∧ W.cell? ⟨bb, ob + k, none⟩ = some (.int .i64 (x : Int)))
          ((first | exact kc5n (by assumption) hbn hk hk HXe.out HXe.out | exact kc5d hS hk hk HXe.out HXe.out))
          ((go_at_call 33; refine (HB1.out _ (kl_rd (by assumption))).mono ?_; rintro e wn ⟨rfl, hbn⟩))
        have HE := Lib.hid (by assumption : Kl _ _ _ _ _ _ _ _ ∧ _).1
        go_wp2_with fail
        go_ret2
        exact ⟨ret_two (by rw [HM.out]; rfl) (by rw [HM.out]; rfl), HE.out.1.bel⟩

/-! Whatever is asked. -/
def jnV (ns : List ByteArray) (up : List UInt8) (zs : List Int) : Int := if ((lck ns up zs).2 != 0) = true then 0 else ((jn (le up) up.length (endF (ge up) up.length up.length) (zs.map Int.toNat) : Nat) : Int)
def mtV (ns : List ByteArray) (up : List UInt8) (zs : List Int) : Int := if ((lck ns up zs).2 != 0) = true then 0 else ((jn (ge up) up.length (endF (le up) up.length up.length) (zs.map Int.toNat) : Nat) : Int)
def fwV (ns : List ByteArray) (up : List UInt8) (zs : List Int) (t : Int) : Int × Int := if ((lck ns up zs).2 != 0) = true then lck ns up zs else if isL ns.length t = true then flV up (zs.map Int.toNat) t.toNat else (-1, 7)
theorem ljoin_any (v u : Value) (ns : List ByteArray) (up : List UInt8) (zs : List Int) (w : World) (hv : RdL w.heap.size w v ns up) (hz : RdI w.heap.size w u zs) :
    Calls Tryz.prog 8 #[v, u] w fun e w' => e = .returned (.tuple #[.int .i64 (jnV ns up zs), .int .i64 (lck ns up zs).2]) ∧ Below w.heap.size w w' := by
  cases e0 : ((lck ns up zs).2 != 0) with
  | true =>
    rw [show jnV ns up zs = 0 from if_pos e0]
    exact ljoin_bad v u ns up zs w hv hz e0
  | false =>
    obtain ⟨ls, rfl, hg⟩ := gl_of e0
    rw [show jnV ns up (ints ls) = _ from if_neg (by rw [e0]; decide), show (lck ns up (ints ls)).2 = 0 by rw [hg.lck], ints_nat]
    exact ljoin_ok v u ns up ls w hv (rd_nat hz) hg
theorem rjoin4_any (v u : Value) (ns : List ByteArray) (up : List UInt8) (zs : List Int) (w : World) (hv : RdL w.heap.size w v ns up) (hz : RdI w.heap.size w u zs) :
    Calls Tryz.prog 9 #[v, u] w fun e w' => e = .returned (.tuple #[.int .i64 (jnV ns up zs), .int .i64 (lck ns up zs).2]) ∧ Below w.heap.size w w' := by
  cases e0 : ((lck ns up zs).2 != 0) with
  | true =>
    rw [show jnV ns up zs = 0 from if_pos e0]
    exact rjoin4_bad v u ns up zs w hv hz e0
  | false =>
    obtain ⟨ls, rfl, hg⟩ := gl_of e0
    rw [show jnV ns up (ints ls) = _ from if_neg (by rw [e0]; decide), show (lck ns up (ints ls)).2 = 0 by rw [hg.lck], ints_nat]
    exact rjoin4_ok v u ns up ls w hv (rd_nat hz) hg
theorem lmeet_any (v u : Value) (ns : List ByteArray) (up : List UInt8) (zs : List Int) (w : World) (hv : RdL w.heap.size w v ns up) (hz : RdI w.heap.size w u zs) :
    Calls Tryz.prog 10 #[v, u] w fun e w' => e = .returned (.tuple #[.int .i64 (mtV ns up zs), .int .i64 (lck ns up zs).2]) ∧ Below w.heap.size w w' := by
  cases e0 : ((lck ns up zs).2 != 0) with
  | true =>
    rw [show mtV ns up zs = 0 from if_pos e0]
    exact lmeet_bad v u ns up zs w hv hz e0
  | false =>
    obtain ⟨ls, rfl, hg⟩ := gl_of e0
    rw [show mtV ns up (ints ls) = _ from if_neg (by rw [e0]; decide), show (lck ns up (ints ls)).2 = 0 by rw [hg.lck], ints_nat]
    exact lmeet_ok v u ns up ls w hv (rd_nat hz) hg
theorem rmeet4_any (v u : Value) (ns : List ByteArray) (up : List UInt8) (zs : List Int) (w : World) (hv : RdL w.heap.size w v ns up) (hz : RdI w.heap.size w u zs) :
    Calls Tryz.prog 11 #[v, u] w fun e w' => e = .returned (.tuple #[.int .i64 (mtV ns up zs), .int .i64 (lck ns up zs).2]) ∧ Below w.heap.size w w' := by
  cases e0 : ((lck ns up zs).2 != 0) with
  | true =>
    rw [show mtV ns up zs = 0 from if_pos e0]
    exact rmeet4_bad v u ns up zs w hv hz e0
  | false =>
    obtain ⟨ls, rfl, hg⟩ := gl_of e0
    rw [show mtV ns up (ints ls) = _ from if_neg (by rw [e0]; decide), show (lck ns up (ints ls)).2 = 0 by rw [hg.lck], ints_nat]
    exact rmeet4_ok v u ns up ls w hv (rd_nat hz) hg
theorem lflows_any (v u : Value) (ns : List ByteArray) (up : List UInt8) (zs : List Int) (t : Int) (w : World) (hv : RdL w.heap.size w v ns up) (hz : RdI w.heap.size w u zs) :
    Calls Tryz.prog 12 #[v, u, .int .i64 t] w fun e w' => e = .returned (.tuple #[.int .i64 (fwV ns up zs t).1, .int .i64 (fwV ns up zs t).2]) ∧ Below w.heap.size w w' := by
  cases e0 : ((lck ns up zs).2 != 0) with
  | true =>
    rw [show fwV ns up zs t = lck ns up zs from if_pos e0]
    exact lflows_bad v u ns up zs t w hv hz e0
  | false =>
    obtain ⟨ls, rfl, hg⟩ := gl_of e0
    have hnf : ¬ (((lck ns up (ints ls)).2 != 0) = true) := by rw [e0]; decide
    cases e1 : isL ns.length t with
    | false =>
      rw [show fwV ns up (ints ls) t = (-1, 7) by unfold fwV; rw [if_neg hnf, if_neg (by rw [e1]; decide)]]
      exact lflows_rng v u ns up ls t w hv (rd_nat hz) hg e1
    | true =>
      rw [show fwV ns up (ints ls) t = flV up ls t.toNat by unfold fwV; rw [if_neg hnf, if_pos e1, ints_nat]]
      have h1 := isL_iff.1 e1
      have h2 := hg.good.len
      obtain ⟨x, rfl⟩ : ∃ x : Nat, t = (x : Int) := ⟨t.toNat, by omega⟩
      rw [Int.toNat_natCast]
      exact lflows_ok v u ns up ls x w hv (rd_nat hz) hg (by omega)
theorem rflows4_any (v u : Value) (ns : List ByteArray) (up : List UInt8) (zs : List Int) (t : Int) (w : World) (hv : RdL w.heap.size w v ns up) (hz : RdI w.heap.size w u zs) :
    Calls Tryz.prog 13 #[v, u, .int .i64 t] w fun e w' => e = .returned (.tuple #[.int .i64 (fwV ns up zs t).1, .int .i64 (fwV ns up zs t).2]) ∧ Below w.heap.size w w' := by
  cases e0 : ((lck ns up zs).2 != 0) with
  | true =>
    rw [show fwV ns up zs t = lck ns up zs from if_pos e0]
    exact rflows4_bad v u ns up zs t w hv hz e0
  | false =>
    obtain ⟨ls, rfl, hg⟩ := gl_of e0
    have hnf : ¬ (((lck ns up (ints ls)).2 != 0) = true) := by rw [e0]; decide
    cases e1 : isL ns.length t with
    | false =>
      rw [show fwV ns up (ints ls) t = (-1, 7) by unfold fwV; rw [if_neg hnf, if_neg (by rw [e1]; decide)]]
      exact rflows4_rng v u ns up ls t w hv (rd_nat hz) hg e1
    | true =>
      rw [show fwV ns up (ints ls) t = flV up ls t.toNat by unfold fwV; rw [if_neg hnf, if_pos e1, ints_nat]]
      have h1 := isL_iff.1 e1
      have h2 := hg.good.len
      obtain ⟨x, rfl⟩ : ∃ x : Nat, t = (x : Int) := ⟨t.toNat, by omega⟩
      rw [Int.toNat_natCast]
      exact rflows4_ok v u ns up ls x w hv (rd_nat hz) hg (by omega)
end Go.Proofs.YtdkljpoecdinjaaGreat
