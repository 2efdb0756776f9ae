/- The law LabelsLeast as a walk. -/
import Derived.Test.YtdkljpoecdinjaaLbV
namespace Go.Proofs.Ytdkljpoecdinjaa
open Go.RowKit

set_option maxRecDepth 100000 in
set_option maxHeartbeats 4000000 in
theorem lawLeast_far (v u : Value) (ns : List ByteArray) (up : List UInt8) (zs : List Int) (b : Int) (w : World) (hv : RdL w.heap.size w v ns up) (hz : RdI w.heap.size w u zs) (e0 : farB ns up = true) :
    Calls Try.prog 7 #[v, u, .int .u8 b] w fun e w' => e = .returned (.bool true) ∧ Below w.heap.size w w' := by
  have HL := Lib.hid hv
  obtain ⟨⟨vn, vu, rfl, hS, hB⟩, hsz⟩ := hv
  obtain ⟨q1, cap, rfl, hc, hc2, h⟩ := hS
  obtain ⟨q, cap', rfl, hc', hc2', h'⟩ := hB
  clear h h' hsz
  have HZ := Lib.hid hz
  obtain ⟨a, c, rfl, hl, hl2, h⟩ := hz
  clear h
  have HI := Lib.hid (Bx.new HL.out)
  go_enter Try.func7, Try.ntmps7
  go_wp2_with (first
    | (go_at_call 8; refine (far_any _ ns up _ HI.out.rd).mono ?_; rintro e w' ⟨rfl, hbn⟩; have HI2 := Lib.hid (HI.out.next hbn); clear HI; have HI := HI2; clear HI2; have hx0 := HI.out.x0; have hx1 := HI.out.x1; clear hbn)
    | (go_at_call 9; refine (awake4_any _).mono ?_; rintro e w' ⟨rfl, hbn⟩; clear hx0 hx1; have HI2 := Lib.hid (HI.out.next hbn); clear HI; have HI := HI2; clear HI2; have hx0 := HI.out.x0; have hx1 := HI.out.x1; clear hbn))
  go_ret
  exact ⟨ret_bool (by first | rfl | simp), HI.out.bel⟩

set_option maxRecDepth 100000 in
set_option maxHeartbeats 4000000 in
theorem lawLeast_long (v u : Value) (ns : List ByteArray) (up : List UInt8) (zs : List Int) (b : Int) (w : World) (hv : RdL w.heap.size w v ns up) (hz : RdI w.heap.size w u zs) (e0 : farB ns up = false) (h8 : (80 : Int) < (zs.length : Int)) :
    Calls Try.prog 7 #[v, u, .int .u8 b] w fun e w' => e = .returned (.bool true) ∧ Below w.heap.size w w' := by
  have HL := Lib.hid hv
  obtain ⟨⟨vn, vu, rfl, hS, hB⟩, hsz⟩ := hv
  obtain ⟨q1, cap, rfl, hc, hc2, h⟩ := hS
  obtain ⟨q, cap', rfl, hc', hc2', h'⟩ := hB
  clear h h' hsz
  have HZ := Lib.hid hz
  obtain ⟨a, c, rfl, hl, hl2, h⟩ := hz
  clear h
  have HI := Lib.hid (Bx.new HL.out)
  go_enter Try.func7, Try.ntmps7
  go_wp2_with (first
    | (go_at_call 8; refine (far_any _ ns up _ HI.out.rd).mono ?_; rintro e w' ⟨rfl, hbn⟩; have HI2 := Lib.hid (HI.out.next hbn); clear HI; have HI := HI2; clear HI2; have hx0 := HI.out.x0; have hx1 := HI.out.x1; clear hbn)
    | (go_at_call 9; refine (awake4_any _).mono ?_; rintro e w' ⟨rfl, hbn⟩; clear hx0 hx1; have HI2 := Lib.hid (HI.out.next hbn); clear HI; have HI := HI2; clear HI2; have hx0 := HI.out.x0; have hx1 := HI.out.x1; clear hbn))
  go_ret
  exact ⟨ret_bool (by first | rfl | simp), HI.out.bel⟩

def smI (up : List UInt8) (S ls : List Nat) (i j : Nat) : Bool := le up (S.getD j 0) (ls.getD i 0)
theorem smI_get {up : List UInt8} {S ls : List Nat} {i j : Nat} (hi : i < ls.length) (hj : j < S.length) : smI up S ls i j = le up S[j] ls[i] := by
  unfold smI; rw [List.getD_eq_getElem?_getD, List.getD_eq_getElem?_getD, List.getElem?_eq_getElem hi, List.getElem?_eq_getElem hj]; rfl
theorem sm_all {up : List UInt8} {S ls : List Nat} (hq : Lq up ls S) {i : Nat} (hi : i < ls.length) : (List.range S.length).any (smI up S ls i) = true := by
  obtain ⟨k, hk, h⟩ := hq.some _ (List.getElem_mem hi)
  exact List.any_eq_true.2 ⟨k, List.mem_range.2 hk, by rw [smI_get hi hk]; exact h⟩
def inI (S ls : List Nat) (k j : Nat) : Bool := ls.getD j 0 == S.getD k 0
theorem inI_get {S ls : List Nat} {k j : Nat} (hk : k < S.length) (hj : j < ls.length) : inI S ls k j = (((ls[j] : Nat) : Int) == ((S[k] : Nat) : Int)) := by
  unfold inI; rw [nat_beq, List.getD_eq_getElem?_getD, List.getD_eq_getElem?_getD, List.getElem?_eq_getElem hk, List.getElem?_eq_getElem hj]; rfl
theorem in_all {up : List UInt8} {S ls : List Nat} (hq : Lq up ls S) {k : Nat} (hk : k < S.length) : (List.range ls.length).any (inI S ls k) = true := by
  obtain ⟨j, hj, e⟩ := List.getElem_of_mem (hq.mem _ (List.getElem_mem hk))
  exact List.any_eq_true.2 ⟨j, List.mem_range.2 hj, by rw [inI_get hk hj, e]; simp⟩

set_option maxRecDepth 100000 in
set_option maxHeartbeats 8000000 in
theorem lawLeast_bad (v u : Value) (ns : List ByteArray) (up : List UInt8) (zs : List Int) (b : Int) (w : World) (hv : RdL w.heap.size w v ns up) (hz : RdI w.heap.size w u zs) (e0 : farB ns up = false) (h8 : ¬ (80 : Int) < (zs.length : Int)) (hk : ((lck ns up zs).2 != 0) = true) :
    Calls Try.prog 7 #[v, u, .int .u8 b] w fun e w' => e = .returned (.bool true) ∧ Below w.heap.size w w' := by
  have HL := Lib.hid hv
  obtain ⟨⟨vn, vu, rfl, hS, hB⟩, hsz⟩ := hv
  obtain ⟨q1, cap, rfl, hc, hc2, h⟩ := hS
  obtain ⟨q, cap', rfl, hc', hc2', h'⟩ := hB
  clear h h' hsz
  have HZ := Lib.hid hz
  obtain ⟨a, c, rfl, hl, hl2, h⟩ := hz
  clear h
  have HI := Lib.hid (Bx.new HL.out)
  go_enter Try.func7, Try.ntmps7
  go_wp2_with (first
    | (go_at_call 8; refine (far_any _ ns up _ HI.out.rd).mono ?_; rintro e w' ⟨rfl, hbn⟩; have HI2 := Lib.hid (HI.out.next hbn); clear HI; have HI := HI2; clear HI2; have hx0 := HI.out.x0; have hx1 := HI.out.x1; clear hbn)
    | (go_at_call 19; refine (lleast_bad _ _ ns up zs _ HI.out.rd (HZ.out.next HI.out.bel) hk).mono ?_; rintro e w' ⟨rfl, hbn⟩; clear hx0 hx1; have HI2 := Lib.hid (HI.out.next hbn); clear HI; have HI := HI2; clear HI2; have hx0 := HI.out.x0; have hx1 := HI.out.x1; clear hbn)
    | (go_at_call 9; refine (awake4_any _).mono ?_; rintro e w' ⟨rfl, hbn⟩; clear hx0 hx1; have HI2 := Lib.hid (HI.out.next hbn); clear HI; have HI := HI2; clear HI2; have hx0 := HI.out.x0; have hx1 := HI.out.x1; clear hbn))
  go_ret
  exact ⟨ret_bool (by first | rfl | simp), HI.out.bel⟩

set_option maxRecDepth 100000 in
set_option maxHeartbeats 8000000 in
theorem lawLeast_ok (v u : Value) (ns : List ByteArray) (up : List UInt8) (ls : List Nat) (b : Int) (w : World) (hv : RdL w.heap.size w v ns up) (hz : RdN w.heap.size w u ls) (e0 : farB ns up = false) (hg : GL ns up ls) (hb0 : 0 ≤ b) (hb1 : b < 256) :
    Calls Try.prog 7 #[v, u, .int .u8 b] w fun e w' => e = .returned (.bool true) ∧ Below w.heap.size w w' := by
  have HL := Lib.hid hv
  obtain ⟨⟨vn, vu, rfl, hS, hB⟩, hsz⟩ := hv
  obtain ⟨q1, cap, rfl, hc, hc2, h⟩ := hS
  obtain ⟨q, cap', rfl, hc', hc2', h'⟩ := hB
  clear h h' hsz
  have HZ := Lib.hid hz
  obtain ⟨a, c, rfl, hl, hl2, h⟩ := hz
  clear h
  have HI := Lib.hid (Bx.new HL.out)
  have h8 : ¬ (80 : Int) < (ls.length : Int) := by have := hg.most; omega
  have HG := Lib.hid hg
  have HSd := Lib.hid (lq_of hg)
  have hu8 : up.length ≤ 8 := by have := hg.good.most; have := hg.good.len; omega
  clear hg
  have HS1 : Hid (∀ W, Below w.heap.size w W → RdL W.heap.size W (.agg #[.slice q1 ns.length cap, .slice q up.length cap']) ns up → Calls Try.prog 19 #[.agg #[.slice q1 ns.length cap, .slice q up.length cap'], .slice a ls.length c] W (SoL (srt up (leB up ls)) 0 W)) := fun W hb hW => (lleast_ok _ _ ns up ls W hW (HZ.out.next hb) HG.out).mono fun e w' h => soL_ok h
  have hS8 := srt_len up (leB up ls)
  generalize srt up (leB up ls) = S at HS1 HSd hS8
  go_enter Try.func7, Try.ntmps7
  go_wp2_with (first
    | (go_at_call 8; refine (far_any _ ns up _ HI.out.rd).mono ?_; rintro e w' ⟨rfl, hbn⟩; have HI2 := Lib.hid (HI.out.next hbn); clear HI; have HI := HI2; clear HI2; have hx0 := HI.out.x0; have hx1 := HI.out.x1; clear hbn)
    | (go_at_call 19; refine (HS1.out _ HI.out.bel HI.out.rd).mono ?_; rintro e w1 ⟨sa, sc, rfl, hr, hbn⟩; clear hx0 hx1; have HI2 := Lib.hid (HI.out.next hbn); clear HI; have HI := HI2; clear HI2; have hx0 := HI.out.x0; have hx1 := HI.out.x1; have HX := Lib.hid hr; clear hr hbn))
  have HO0 : Hid (Km w (.slice q1 ns.length cap) (.slice q up.length cap') (.slice a ls.length c) (.slice sa S.length sc) ns up ls S w1) := ⟨HI.out, HZ.out.next HI.out.bel, HX.out⟩
  clear HI HX hx0 hx1
  go_loopg [9] ls.length (fun g i W => ∃ k : Nat, k + g = ls.length ∧ i = .int .i64 k ∧ Km w (.slice q1 ns.length cap) (.slice q up.length cap') (.slice a ls.length c) (.slice sa S.length sc) ns up ls S W)
  case atStart => exact ⟨0, by omega, rfl, HO0.out⟩
  case round =>
    clear HO0
    obtain ⟨i, hig, rfl, hoz⟩ := hrel
    have HO := Lib.hid hoz; clear hoz
    cases gk with
    | zero =>
      have hiz : ¬ ((i : Int) < (ls.length : Int)) := by omega
      go_wp2_with fail
      go_loopg [12] S.length (fun g i W => ∃ k : Nat, k + g = S.length ∧ i = .int .i64 k ∧ Km w (.slice q1 ns.length cap) (.slice q up.length cap') (.slice a ls.length c) (.slice sa S.length sc) ns up ls S W)
      case atStart => exact ⟨0, by omega, rfl, HO.out⟩
      case round =>
        clear HO
        obtain ⟨k, hkg, rfl, hoz⟩ := hrel
        have HO := Lib.hid hoz; clear hoz
        cases gk with
        | zero =>
          have hkz : ¬ ((k : Int) < (S.length : Int)) := by omega
          have hx0 := HO.out.l.x0
          have hx1 := HO.out.l.x1
          have hnp : 0 < ns.length := HG.out.good.pos
          go_wp2_with fail
          obtain ⟨x, hxe, hxl⟩ : ∃ x : Nat, b % (ns.length : Int) = (x : Int) ∧ x < ns.length := ⟨(b % (ns.length : Int)).toNat, by have := Int.emod_nonneg b (b := (ns.length : Int)) (by omega); omega, by have := Int.emod_nonneg b (b := (ns.length : Int)) (by omega); have := Int.emod_lt_of_pos b (b := (ns.length : Int)) (by omega); omega⟩
          have hxu : x < up.length := by have := HG.out.good.len; omega
          have HDq := Lib.hid (dq_of HG.out.good.ords.1 hxu)
          have HNU : Hid (ns.length = up.length) := HG.out.good.len.symm
          have HD1 : Hid (∀ W, RdL W.heap.size W (.agg #[.slice q1 ns.length cap, .slice q up.length cap']) ns up → Calls Try.prog 10 #[.agg #[.slice q1 ns.length cap, .slice q up.length cap'], .int .i64 (x : Nat)] W (SoL (srt up (fun b => le up b x)) 0 W)) := fun W hW => (ldown_ok _ ns up x W hW HG.out.good hxu).mono fun e w' h => soL_ok h
          have HU1 : Hid (∀ W, RdL W.heap.size W (.agg #[.slice q1 ns.length cap, .slice q up.length cap']) ns up → Calls Try.prog 13 #[.agg #[.slice q1 ns.length cap, .slice q up.length cap'], .int .i64 (x : Nat)] W (SoL (srt up (fun b => le up x b)) 0 W)) := fun W hW => (lup_ok _ ns up x W hW HG.out.good hxu).mono fun e w' h => soL_ok h
          have hD8 := srt_len up (fun b => le up b x)
          have hU8 := srt_len up (fun b => le up x b)
          generalize srt up (fun b => le up b x) = D at HD1 HDq hD8
          generalize srt up (fun b => le up x b) = U at HU1 HDq hU8
          obtain ⟨nd, hnd⟩ : ∃ n, D.length = n + 1 := ⟨D.length - 1, by have := HDq.out.dpos; omega⟩
          obtain ⟨nu, hnu⟩ : ∃ n, U.length = n + 1 := ⟨U.length - 1, by have := HDq.out.upos; omega⟩
          have HD2 : Hid (∀ W, RdL W.heap.size W (.agg #[.slice q1 ns.length cap, .slice q up.length cap']) ns up → Calls Try.prog 10 #[.agg #[.slice q1 ns.length cap, .slice q up.length cap'], .int .i64 (x : Nat)] W (fun e w' => ∃ b o c, e = .returned (.tuple #[.slice (some ⟨b, o, none⟩) (nd + 1) c, .int .i64 0]) ∧ RdN w'.heap.size w' (.slice (some ⟨b, o, none⟩) (nd + 1) c) D ∧ Below W.heap.size W w')) := fun W hW => by
            have h := HD1.out W hW
            unfold SoL at h
            rw [hnd] at h
            refine h.mono ?_
            rintro e w' ⟨a, c, he, hr, hb⟩
            obtain ⟨b0, o0, rfl, _, _⟩ := hr.at 0 (by omega)
            exact ⟨b0, o0, c, he, hr, hb⟩
          have HU2 : Hid (∀ W, RdL W.heap.size W (.agg #[.slice q1 ns.length cap, .slice q up.length cap']) ns up → Calls Try.prog 13 #[.agg #[.slice q1 ns.length cap, .slice q up.length cap'], .int .i64 (x : Nat)] W (fun e w' => ∃ b o c, e = .returned (.tuple #[.slice (some ⟨b, o, none⟩) (nu + 1) c, .int .i64 0]) ∧ RdN w'.heap.size w' (.slice (some ⟨b, o, none⟩) (nu + 1) c) U ∧ Below W.heap.size W w')) := fun W hW => by
            have h := HU1.out W hW
            unfold SoL at h
            rw [hnu] at h
            refine h.mono ?_
            rintro e w' ⟨a, c, he, hr, hb⟩
            obtain ⟨b0, o0, rfl, _, _⟩ := hr.at 0 (by omega)
            exact ⟨b0, o0, c, he, hr, hb⟩
          have HND := Lib.hid hnd
          have HNUl := Lib.hid hnu
          rw [hnd] at hD8
          rw [hnu] at hU8
          clear HD1 HU1 hnd hnu
          rw [hxe]
          have HI0 := Lib.hid HO.out.l
          clear HO
          refine (HD2.out _ HI0.out.rd).mono ?_
          rintro e w2 ⟨bd, od, dc, rfl, hr, hbn⟩
          have HX := Lib.hid hr
          have HI1 := Lib.hid (HI0.out.next hbn)
          clear HI0 hr hbn hx0 hx1
          have hx0 := HI1.out.x0
          have hx1 := HI1.out.x1
          go_wp2_with fail
          refine (HU2.out _ HI1.out.rd).mono ?_
          rintro e w3 ⟨bu, ou, uc, rfl, hr, hbn⟩
          have HO : Hid (Km w (.slice q1 ns.length cap) (.slice q up.length cap') (.slice (some ⟨bd, od, none⟩) (nd + 1) dc) (.slice (some ⟨bu, ou, none⟩) (nu + 1) uc) ns up D U w3) := ⟨HI1.out.next hbn, HX.out.next hbn, hr⟩
          clear HI1 HX hr hbn hx0 hx1
          have hx0 := HO.out.l.x0
          have hx1 := HO.out.l.x1
          have hcd : w3.cell? ⟨bd, od + nd, none⟩ = some (.int .i64 (x : Int)) := by
            have h := rd_cell HO.out.z nd (by have := HND.out; omega)
            have h2 := HDq.out.dlast (by have := HDq.out.dpos; omega)
            rw [h]
            have h3 : D.length - 1 = nd := by have := HND.out; omega
            simp only [h3] at h2
            rw [h2]
          have hcu : w3.cell? ⟨bu, ou, none⟩ = some (.int .i64 (x : Int)) := by
            have h := rd_cell HO.out.s 0 (by have := HNUl.out; omega)
            rw [HDq.out.uhead] at h
            exact h
          have hd0 : ((nd : Int) + 1 == 0) = false := by rw [beq_eq_false_iff_ne]; omega
          have hu0 : ((nu : Int) + 1 == 0) = false := by rw [beq_eq_false_iff_ne]; omega
          go_wp2_with fail
          clear hcd hcu hx0 hx1 hd0 hu0
          go_loopg [20, 21, 22] ns.length (fun g l h k W => ∃ m lo hi : Nat, m + g = ns.length ∧ k = .int .i64 m ∧ l = .int .i64 lo ∧ h = .int .i64 hi ∧ lo ≤ m ∧ hi ≤ m ∧ Km w (.slice q1 ns.length cap) (.slice q up.length cap') (.slice (some ⟨bd, od, none⟩) (nd + 1) dc) (.slice (some ⟨bu, ou, none⟩) (nu + 1) uc) ns up D U W ∧ Hid (lvK up x m = lo) ∧ Hid (hvK up x m = hi))
          case atStart => exact ⟨0, 0, 0, by omega, rfl, rfl, rfl, by omega, by omega, HO.out, rfl, rfl⟩
          case round =>
            clear HO
            obtain ⟨m, lo, hi, hmg, rfl, rfl, rfl, hlo, hhi, hoz, hA, hC⟩ := hrel
            have HO := Lib.hid hoz; clear hoz
            have hx0 := HO.out.l.x0
            have hx1 := HO.out.l.x1
            cases gk with
            | zero =>
              have hmz : ¬ ((m : Int) < (ns.length : Int)) := by omega
              have hlo2 : lo = nd + 1 := by
                have h1 := hA.out
                have h2 := HNU.out
                rw [show m = up.length by omega, ← HDq.out.dlen, HND.out] at h1
                exact h1.symm
              have hhi2 : hi = nu + 1 := by
                have h1 := hC.out
                have h2 := HNU.out
                rw [show m = up.length by omega, ← HDq.out.ulen, HNUl.out] at h1
                exact h1.symm
              subst hlo2 hhi2
              clear hA hC
              go_wp2_with fail
              clear hx0 hx1
              go_loopg [23] (nd + 1) (fun g k W => ∃ i : Nat, i + g = nd + 1 ∧ k = .int .i64 i ∧ Km w (.slice q1 ns.length cap) (.slice q up.length cap') (.slice (some ⟨bd, od, none⟩) (nd + 1) dc) (.slice (some ⟨bu, ou, none⟩) (nu + 1) uc) ns up D U W)
              case atStart => exact ⟨0, by omega, rfl, HO.out⟩
              case round =>
                clear HO
                obtain ⟨i9, hi9, rfl, hoz⟩ := hrel
                have HO := Lib.hid hoz; clear hoz
                cases gk with
                | zero =>
                  have hiz9 : ¬ ((i9 : Int) < (nd : Int) + 1) := by omega
                  go_wp2_with fail
                  go_loopg [24] (nu + 1) (fun g k W => ∃ i : Nat, i + g = nu + 1 ∧ k = .int .i64 i ∧ Km w (.slice q1 ns.length cap) (.slice q up.length cap') (.slice (some ⟨bd, od, none⟩) (nd + 1) dc) (.slice (some ⟨bu, ou, none⟩) (nu + 1) uc) ns up D U W)
                  case atStart => exact ⟨0, by omega, rfl, HO.out⟩
                  case round =>
                    clear HO
                    obtain ⟨j9, hj9, rfl, hoz⟩ := hrel
                    have HO := Lib.hid hoz; clear hoz
                    cases gk with
                    | zero =>
                      have hjz9 : ¬ ((j9 : Int) < (nu : Int) + 1) := by omega
                      go_wp2_with (go_at_call 9; refine (awake4_any _).mono ?_; rintro e w' ⟨rfl, hbn⟩; have HO2 := Lib.hid (HO.out.next hbn); clear HO; have HO := HO2; clear HO2; clear hbn)
                      go_ret
                      exact ⟨ret_bool (by first | rfl | simp), HO.out.l.bel⟩
                    | succ g8 =>
                      have hjlt9 : (j9 : Int) < (nu : Int) + 1 := by omega
                      have hj' : j9 < U.length := by have := HNUl.out; omega
                      have HP : Hid (∀ W, Km w (.slice q1 ns.length cap) (.slice q up.length cap') (.slice (some ⟨bd, od, none⟩) (nd + 1) dc) (.slice (some ⟨bu, ou, none⟩) (nu + 1) uc) ns up D U W → W.cell? ⟨bu, ou + j9, none⟩ = some (.int .i64 ((U[j9] : Nat) : Int))) := fun W h => rd_cell h.s j9 hj'
                      have hal := HDq.out.uall _ (List.getElem_mem hj')
                      generalize U[j9] = y at HP hal
                      obtain ⟨hyl, hyx⟩ := hal
                      have HB1 : Hid (∀ W, RdL W.heap.size W (.agg #[.slice q1 ns.length cap, .slice q up.length cap']) ns up → Calls Try.prog 28 #[.agg #[.slice q1 ns.length cap, .slice q up.length cap'], .int .i64 (x : Nat), .int .i64 (y : Nat)] W fun e w' => e = .returned (.bool true) ∧ Below W.heap.size W w') := fun W hW => by have := rbel_any _ ns up x y W hW (by omega) (by omega); rwa [hyx] at this
                      clear hyx
                      go_wp2_with fail
                      have hS := HO.out
                      clear HO
                      go_region_held3 (fun W => Km w (.slice q1 ns.length cap) (.slice q up.length cap') (.slice (some ⟨bd, od, none⟩) (nd + 1) dc) (.slice (some ⟨bu, ou, none⟩) (nu + 1) uc) ns up D U W ∧ W.cell? ⟨w.heap.size, 0, none⟩ = some (.slice q1 ns.length cap) ∧ W.cell? ⟨w.heap.size, 1, none⟩ = some (.slice q up.length cap') ∧ W.cell? ⟨bu, ou + j9, none⟩ = some (.int .i64 (y : Int)) ∧ W.cell? ⟨bu, ou + j9, none⟩ = some (.int .i64 (y : Int)))
                        ((first | exact k5n HP.out HP.out (by assumption) hbn | exact k5 HP.out HP.out (hS.next (Below.refl _ _).drew)))
                        ((go_at_call 28; refine (HB1.out _ (km_rd (by assumption))).mono ?_; rintro e wn ⟨rfl, hbn⟩))
                      have HE := Lib.hid (by assumption : Km _ _ _ _ _ _ _ _ _ _ ∧ _).1
                      go_wp2_with fail
                      go_roundg g8
                      case measure => omega
                      case rel => exact ⟨j9 + 1, by omega, by go_num, HE.out⟩
                | succ g7 =>
                  have hilt9 : (i9 : Int) < (nd : Int) + 1 := by omega
                  have hi' : i9 < D.length := by have := HND.out; omega
                  have HP : Hid (∀ W, Km w (.slice q1 ns.length cap) (.slice q up.length cap') (.slice (some ⟨bd, od, none⟩) (nd + 1) dc) (.slice (some ⟨bu, ou, none⟩) (nu + 1) uc) ns up D U W → W.cell? ⟨bd, od + i9, none⟩ = some (.int .i64 ((D[i9] : Nat) : Int))) := fun W h => rd_cell h.z i9 hi'
                  have hal := HDq.out.dall _ (List.getElem_mem hi')
                  generalize D[i9] = y at HP hal
                  obtain ⟨hyl, hyx⟩ := hal
                  have HB1 : Hid (∀ W, RdL W.heap.size W (.agg #[.slice q1 ns.length cap, .slice q up.length cap']) ns up → Calls Try.prog 28 #[.agg #[.slice q1 ns.length cap, .slice q up.length cap'], .int .i64 (y : Nat), .int .i64 (x : Nat)] W fun e w' => e = .returned (.bool true) ∧ Below W.heap.size W w') := fun W hW => by have := rbel_any _ ns up y x W hW (by omega) (by omega); rwa [hyx] at this
                  clear hyx
                  go_wp2_with fail
                  have hS := HO.out
                  clear HO
                  go_region_held3 (fun W => Km w (.slice q1 ns.length cap) (.slice q up.length cap') (.slice (some ⟨bd, od, none⟩) (nd + 1) dc) (.slice (some ⟨bu, ou, none⟩) (nu + 1) uc) ns up D U W ∧ W.cell? ⟨w.heap.size, 0, none⟩ = some (.slice q1 ns.length cap) ∧ W.cell? ⟨w.heap.size, 1, none⟩ = some (.slice q up.length cap') ∧ W.cell? ⟨bd, od + i9, none⟩ = some (.int .i64 (y : Int)) ∧ W.cell? ⟨bd, od + i9, none⟩ = some (.int .i64 (y : Int)))
                    ((first | exact k5n HP.out HP.out (by assumption) hbn | exact k5 HP.out HP.out (hS.next (Below.refl _ _).drew)))
                    ((go_at_call 28; refine (HB1.out _ (km_rd (by assumption))).mono ?_; rintro e wn ⟨rfl, hbn⟩))
                  have HE := Lib.hid (by assumption : Km _ _ _ _ _ _ _ _ _ _ ∧ _).1
                  go_wp2_with fail
                  go_roundg g7
                  case measure => omega
                  case rel => exact ⟨i9 + 1, by omega, by go_num, HE.out⟩
            | succ g =>
              have hmlt : (m : Int) < (ns.length : Int) := by omega
              have hmu : m < up.length := by have := HNU.out; omega
              cases c1 : le up m x with
              | true =>
                cases c2 : le up x m with
                | true =>
                  have HA : Hid (lvK up x (m + 1) = lo + 1) := by unfold Hid; rw [lvK_t c1, hA.out]
                  have HC : Hid (hvK up x (m + 1) = hi + 1) := by unfold Hid; rw [hvK_t c2, hC.out]
                  have HBa : Hid (∀ W, RdL W.heap.size W (.agg #[.slice q1 ns.length cap, .slice q up.length cap']) ns up → Calls Try.prog 28 #[.agg #[.slice q1 ns.length cap, .slice q up.length cap'], .int .i64 (m : Nat), .int .i64 (x : Nat)] W fun e w' => e = .returned (.bool true) ∧ Below W.heap.size W w') := fun W hW => by have := rbel_any _ ns up m x W hW (by omega) (by omega); rwa [c1] at this
                  have HBb : Hid (∀ W, RdL W.heap.size W (.agg #[.slice q1 ns.length cap, .slice q up.length cap']) ns up → Calls Try.prog 28 #[.agg #[.slice q1 ns.length cap, .slice q up.length cap'], .int .i64 (x : Nat), .int .i64 (m : Nat)] W fun e w' => e = .returned (.bool true) ∧ Below W.heap.size W w') := fun W hW => by have := rbel_any _ ns up x m W hW (by omega) (by omega); rwa [c2] at this
                  clear hA hC c1 c2
                  go_wp2_with (first
                    | (go_at_call 28; (with_reducible refine (HBa.out _ HO.out.l.rd).mono ?_); rintro e w' ⟨rfl, hbn⟩; clear hx0 hx1; have HO2 := Lib.hid (HO.out.next hbn); clear HO; have HO := HO2; clear HO2; have hx0 := HO.out.l.x0; have hx1 := HO.out.l.x1; clear hbn)
                    | (go_at_call 28; (with_reducible refine (HBb.out _ HO.out.l.rd).mono ?_); rintro e w' ⟨rfl, hbn⟩; clear hx0 hx1; have HO2 := Lib.hid (HO.out.next hbn); clear HO; have HO := HO2; clear HO2; have hx0 := HO.out.l.x0; have hx1 := HO.out.l.x1; clear hbn))
                  go_roundg g
                  case measure => omega
                  case rel => exact ⟨m + 1, lo + 1, hi + 1, by omega, by go_num, by go_num, by go_num, by omega, by omega, HO.out, HA, HC⟩
                | false =>
                  have HA : Hid (lvK up x (m + 1) = lo + 1) := by unfold Hid; rw [lvK_t c1, hA.out]
                  have HC : Hid (hvK up x (m + 1) = hi) := by unfold Hid; rw [hvK_f c2, hC.out]
                  have HBa : Hid (∀ W, RdL W.heap.size W (.agg #[.slice q1 ns.length cap, .slice q up.length cap']) ns up → Calls Try.prog 28 #[.agg #[.slice q1 ns.length cap, .slice q up.length cap'], .int .i64 (m : Nat), .int .i64 (x : Nat)] W fun e w' => e = .returned (.bool true) ∧ Below W.heap.size W w') := fun W hW => by have := rbel_any _ ns up m x W hW (by omega) (by omega); rwa [c1] at this
                  have HBb : Hid (∀ W, RdL W.heap.size W (.agg #[.slice q1 ns.length cap, .slice q up.length cap']) ns up → Calls Try.prog 28 #[.agg #[.slice q1 ns.length cap, .slice q up.length cap'], .int .i64 (x : Nat), .int .i64 (m : Nat)] W fun e w' => e = .returned (.bool false) ∧ Below W.heap.size W w') := fun W hW => by have := rbel_any _ ns up x m W hW (by omega) (by omega); rwa [c2] at this
                  clear hA hC c1 c2
                  go_wp2_with (first
                    | (go_at_call 28; (with_reducible refine (HBa.out _ HO.out.l.rd).mono ?_); rintro e w' ⟨rfl, hbn⟩; clear hx0 hx1; have HO2 := Lib.hid (HO.out.next hbn); clear HO; have HO := HO2; clear HO2; have hx0 := HO.out.l.x0; have hx1 := HO.out.l.x1; clear hbn)
                    | (go_at_call 28; (with_reducible refine (HBb.out _ HO.out.l.rd).mono ?_); rintro e w' ⟨rfl, hbn⟩; clear hx0 hx1; have HO2 := Lib.hid (HO.out.next hbn); clear HO; have HO := HO2; clear HO2; have hx0 := HO.out.l.x0; have hx1 := HO.out.l.x1; clear hbn))
                  go_roundg g
                  case measure => omega
                  case rel => exact ⟨m + 1, lo + 1, hi, by omega, by go_num, by go_num, rfl, by omega, by omega, HO.out, HA, HC⟩
              | false =>
                cases c2 : le up x m with
                | true =>
                  have HA : Hid (lvK up x (m + 1) = lo) := by unfold Hid; rw [lvK_f c1, hA.out]
                  have HC : Hid (hvK up x (m + 1) = hi + 1) := by unfold Hid; rw [hvK_t c2, hC.out]
                  have HBa : Hid (∀ W, RdL W.heap.size W (.agg #[.slice q1 ns.length cap, .slice q up.length cap']) ns up → Calls Try.prog 28 #[.agg #[.slice q1 ns.length cap, .slice q up.length cap'], .int .i64 (m : Nat), .int .i64 (x : Nat)] W fun e w' => e = .returned (.bool false) ∧ Below W.heap.size W w') := fun W hW => by have := rbel_any _ ns up m x W hW (by omega) (by omega); rwa [c1] at this
                  have HBb : Hid (∀ W, RdL W.heap.size W (.agg #[.slice q1 ns.length cap, .slice q up.length cap']) ns up → Calls Try.prog 28 #[.agg #[.slice q1 ns.length cap, .slice q up.length cap'], .int .i64 (x : Nat), .int .i64 (m : Nat)] W fun e w' => e = .returned (.bool true) ∧ Below W.heap.size W w') := fun W hW => by have := rbel_any _ ns up x m W hW (by omega) (by omega); rwa [c2] at this
                  clear hA hC c1 c2
                  go_wp2_with (first
                    | (go_at_call 28; (with_reducible refine (HBa.out _ HO.out.l.rd).mono ?_); rintro e w' ⟨rfl, hbn⟩; clear hx0 hx1; have HO2 := Lib.hid (HO.out.next hbn); clear HO; have HO := HO2; clear HO2; have hx0 := HO.out.l.x0; have hx1 := HO.out.l.x1; clear hbn)
                    | (go_at_call 28; (with_reducible refine (HBb.out _ HO.out.l.rd).mono ?_); rintro e w' ⟨rfl, hbn⟩; clear hx0 hx1; have HO2 := Lib.hid (HO.out.next hbn); clear HO; have HO := HO2; clear HO2; have hx0 := HO.out.l.x0; have hx1 := HO.out.l.x1; clear hbn))
                  go_roundg g
                  case measure => omega
                  case rel => exact ⟨m + 1, lo, hi + 1, by omega, by go_num, rfl, by go_num, by omega, by omega, HO.out, HA, HC⟩
                | false =>
                  have HA : Hid (lvK up x (m + 1) = lo) := by unfold Hid; rw [lvK_f c1, hA.out]
                  have HC : Hid (hvK up x (m + 1) = hi) := by unfold Hid; rw [hvK_f c2, hC.out]
                  have HBa : Hid (∀ W, RdL W.heap.size W (.agg #[.slice q1 ns.length cap, .slice q up.length cap']) ns up → Calls Try.prog 28 #[.agg #[.slice q1 ns.length cap, .slice q up.length cap'], .int .i64 (m : Nat), .int .i64 (x : Nat)] W fun e w' => e = .returned (.bool false) ∧ Below W.heap.size W w') := fun W hW => by have := rbel_any _ ns up m x W hW (by omega) (by omega); rwa [c1] at this
                  have HBb : Hid (∀ W, RdL W.heap.size W (.agg #[.slice q1 ns.length cap, .slice q up.length cap']) ns up → Calls Try.prog 28 #[.agg #[.slice q1 ns.length cap, .slice q up.length cap'], .int .i64 (x : Nat), .int .i64 (m : Nat)] W fun e w' => e = .returned (.bool false) ∧ Below W.heap.size W w') := fun W hW => by have := rbel_any _ ns up x m W hW (by omega) (by omega); rwa [c2] at this
                  clear hA hC c1 c2
                  go_wp2_with (first
                    | (go_at_call 28; (with_reducible refine (HBa.out _ HO.out.l.rd).mono ?_); rintro e w' ⟨rfl, hbn⟩; clear hx0 hx1; have HO2 := Lib.hid (HO.out.next hbn); clear HO; have HO := HO2; clear HO2; have hx0 := HO.out.l.x0; have hx1 := HO.out.l.x1; clear hbn)
                    | (go_at_call 28; (with_reducible refine (HBb.out _ HO.out.l.rd).mono ?_); rintro e w' ⟨rfl, hbn⟩; clear hx0 hx1; have HO2 := Lib.hid (HO.out.next hbn); clear HO; have HO := HO2; clear HO2; have hx0 := HO.out.l.x0; have hx1 := HO.out.l.x1; clear hbn))
                  go_roundg g
                  case measure => omega
                  case rel => exact ⟨m + 1, lo, hi, by omega, by go_num, rfl, rfl, by omega, by omega, HO.out, HA, HC⟩
        | succ g =>
          have hklt : (k : Int) < (S.length : Int) := by omega
          have hk' : k < S.length := by omega
          go_wp2_with fail
          go_loopg [13, 14] ls.length (fun g s i W => ∃ (j : Nat) (f : Bool), j + g = ls.length ∧ i = .int .i64 j ∧ s = .bool f ∧ Km w (.slice q1 ns.length cap) (.slice q up.length cap') (.slice a ls.length c) (.slice sa S.length sc) ns up ls S W ∧ Hid (f = (List.range j).any (inI S ls k)))
          case atStart => exact ⟨0, false, by omega, rfl, rfl, HO.out, rfl⟩
          case round =>
            clear HO
            obtain ⟨j, f, hjg, rfl, rfl, hoz, hf⟩ := hrel
            have HO := Lib.hid hoz; clear hoz
            cases gk with
            | zero =>
              have hjz : ¬ ((j : Int) < (ls.length : Int)) := by omega
              have hft : f = true := by
                have h := hf.out
                rw [show j = ls.length by omega, in_all HSd.out hk'] at h
                exact h
              subst hft
              clear hf
              go_wp2_with fail
              go_loopg [15] k (fun g i W => ∃ m : Nat, m + g = k ∧ i = .int .i64 m ∧ Km w (.slice q1 ns.length cap) (.slice q up.length cap') (.slice a ls.length c) (.slice sa S.length sc) ns up ls S W)
              case atStart => exact ⟨0, by omega, rfl, HO.out⟩
              case round =>
                clear HO
                obtain ⟨m, hmg, rfl, hoz⟩ := hrel
                have HO := Lib.hid hoz; clear hoz
                cases gk with
                | zero =>
                  have hmz : ¬ ((m : Int) < (k : Int)) := by omega
                  go_wp2_with fail
                  go_roundg g
                  case measure => omega
                  case rel => exact ⟨k + 1, by omega, by go_num, HO.out⟩
                | succ g3 =>
                  have hmlt : (m : Int) < (k : Int) := by omega
                  have hmS : (m : Int) < (S.length : Int) := by omega
                  have hm' : m < S.length := by omega
                  obtain ⟨bs, os, rfl, hlt0, V1⟩ := HO.out.s.at m hm'
                  clear V1
                  have HP : Hid (∀ W, Km w (.slice q1 ns.length cap) (.slice q up.length cap') (.slice a ls.length c) (.slice (some ⟨bs, os, none⟩) S.length sc) ns up ls S W → W.cell? ⟨bs, os + m, none⟩ = some (.int .i64 ((S[m] : Nat) : Int))) := fun W h => rd_cell h.s m hm'
                  have HQ : Hid (∀ W, Km w (.slice q1 ns.length cap) (.slice q up.length cap') (.slice a ls.length c) (.slice (some ⟨bs, os, none⟩) S.length sc) ns up ls S W → W.cell? ⟨bs, os + k, none⟩ = some (.int .i64 ((S[k] : Nat) : Int))) := fun W h => rd_cell h.s k hk'
                  have HF1 : Hid (le up S[m] S[k] = false) := HSd.out.apart m k (by omega) hm' hk'
                  have HF2 : Hid (le up S[k] S[m] = false) := HSd.out.apart k m (by omega) hk' hm'
                  have hxl := HSd.out.all S[m] (List.getElem_mem hm')
                  have hyl := HSd.out.all S[k] (List.getElem_mem hk')
                  generalize S[m] = x at HP HF1 HF2 hxl
                  generalize S[k] = y at HQ HF1 HF2 hyl
                  have HB1 : Hid (∀ W, RdL W.heap.size W (.agg #[.slice q1 ns.length cap, .slice q up.length cap']) ns up → Calls Try.prog 28 #[.agg #[.slice q1 ns.length cap, .slice q up.length cap'], .int .i64 (x : Nat), .int .i64 (y : Nat)] W fun e w' => e = .returned (.bool false) ∧ Below W.heap.size W w') := fun W hW => by have := rbel_any _ ns up x y W hW (by omega) (by omega); rwa [HF1.out] at this
                  have HB2 : Hid (∀ W, RdL W.heap.size W (.agg #[.slice q1 ns.length cap, .slice q up.length cap']) ns up → Calls Try.prog 28 #[.agg #[.slice q1 ns.length cap, .slice q up.length cap'], .int .i64 (y : Nat), .int .i64 (x : Nat)] W fun e w' => e = .returned (.bool false) ∧ Below W.heap.size W w') := fun W hW => by have := rbel_any _ ns up y x W hW (by omega) (by omega); rwa [HF2.out] at this
                  go_wp2_with fail
                  refine wp_region_held_drew (S := (fun W => Km w (.slice q1 ns.length cap) (.slice q up.length cap') (.slice a ls.length c) (.slice (some ⟨bs, os, none⟩) S.length sc) ns up ls S W ∧ W.cell? ⟨w.heap.size, 0, none⟩ = some (.slice q1 ns.length cap) ∧ W.cell? ⟨w.heap.size, 1, none⟩ = some (.slice q up.length cap') ∧ W.cell? ⟨bs, os + m, none⟩ = some (.int .i64 (x : Int)) ∧ W.cell? ⟨bs, os + k, none⟩ = some (.int .i64 (y : Int)))) (by kernel_rfl) ?_ (fun hHeld => ?_)
                  · exact k5 HP.out HQ.out (HO.out.next (Below.refl _ _).drew)
                  refine wpAnyH_take (i := 0) (v := ?_) rfl (by kernel_rfl) (by kernel_rfl) (by kernel_rfl) (fun _ _ _ h => h) (Or.inl ⟨by rfl, ?_⟩) (by assumption) ?_
                  rotate_left
                  · ((intro w0 hSw); (try dsimp only at hSw); go_simp; (try with_reducible rfl))
                  change wpAnyH _ _ _ _ _ _ _ (Act.put _ (some 103) _) _
                  try simp only [Act.put, List.setIfInBounds_toArray, List.set_cons_zero, List.set_cons_succ]
                  refine wpAnyH_take (i := 1) (v := ?_) rfl (by kernel_rfl) (by kernel_rfl) (by kernel_rfl) (fun _ _ _ h => h) (Or.inl ⟨by rfl, ?_⟩) (by assumption) ?_
                  rotate_left
                  · ((intro w0 hSw); (try dsimp only at hSw); go_simp; (try with_reducible rfl))
                  change wpAnyH _ _ _ _ _ _ _ (Act.put _ (some 104) _) _
                  try simp only [Act.put, List.setIfInBounds_toArray, List.set_cons_zero, List.set_cons_succ]
                  refine wpAnyH_take (i := 2) (v := ?_) rfl (by kernel_rfl) (by kernel_rfl) (by kernel_rfl) (fun _ _ _ h => h) (Or.inl ⟨by rfl, ?_⟩) (by assumption) ?_
                  rotate_left
                  · ((intro w0 hSw); (try dsimp only at hSw); go_simp; (try with_reducible rfl))
                  change wpAnyH _ _ _ _ _ _ _ (Act.put _ (some 105) _) _
                  try simp only [Act.put, List.setIfInBounds_toArray, List.set_cons_zero, List.set_cons_succ]
                  refine wpAnyH_take (i := 3) (v := ?_) rfl (by kernel_rfl) (by kernel_rfl) (by kernel_rfl) (fun _ _ _ h => h) (Or.inl ⟨by rfl, ?_⟩) (by assumption) ?_
                  rotate_left
                  · ((intro w0 hSw); (try dsimp only at hSw); go_simp; (try with_reducible rfl))
                  change wpAnyH _ _ _ _ _ _ _ (Act.put _ (some 106) _) _
                  try simp only [Act.put, List.setIfInBounds_toArray, List.set_cons_zero, List.set_cons_succ]
                  refine wpAnyH_take (i := 4) (v := ?_) rfl (by kernel_rfl) (by kernel_rfl) (by kernel_rfl) (fun _ _ _ h => h) (Or.inl ⟨by rfl, ?_⟩) (by assumption) ?_
                  rotate_left
                  · ((intro w0 hSw); (try dsimp only at hSw); go_simp; (try with_reducible rfl))
                  change wpAnyH _ _ _ _ _ _ _ (Act.put _ (some 107) _) _
                  try simp only [Act.put, List.setIfInBounds_toArray, List.set_cons_zero, List.set_cons_succ]
                  refine wpAnyH_take (i := 5) (v := ?_) rfl (by kernel_rfl) (by kernel_rfl) (by kernel_rfl) (fun _ _ _ h => h) (Or.inl ⟨by rfl, ?_⟩) (by assumption) ?_
                  rotate_left
                  · ((intro w0 hSw); (try dsimp only at hSw); go_simp; (try with_reducible rfl))
                  change wpAnyH _ _ _ _ _ _ _ (Act.put _ (some 108) _) _
                  try simp only [Act.put, List.setIfInBounds_toArray, List.set_cons_zero, List.set_cons_succ]
                  refine wpAnyH_take (i := 6) (v := ?_) rfl (by kernel_rfl) (by kernel_rfl) (by kernel_rfl) (fun _ _ _ h => h) (Or.inl ⟨by rfl, ?_⟩) (by assumption) ?_
                  rotate_left
                  · ((intro w0 hSw); (try dsimp only at hSw); go_simp; (try with_reducible rfl))
                  change wpAnyH _ _ _ _ _ _ _ (Act.put _ (some 109) _) _
                  try simp only [Act.put, List.setIfInBounds_toArray, List.set_cons_zero, List.set_cons_succ]
                  refine wpAnyH_take (i := 7) (v := ?_) rfl (by kernel_rfl) (by kernel_rfl) (by kernel_rfl) (fun _ _ _ h => h) (Or.inl ⟨by rfl, ?_⟩) (by assumption) ?_
                  rotate_left
                  · ((intro w0 hSw); (try dsimp only at hSw); go_simp; (try with_reducible rfl))
                  change wpAnyH _ _ _ _ _ _ _ (Act.put _ (some 110) _) _
                  try simp only [Act.put, List.setIfInBounds_toArray, List.set_cons_zero, List.set_cons_succ]
                  refine wpAnyH_take (i := 8) (v := ?_) rfl (by kernel_rfl) (by kernel_rfl) (by kernel_rfl) (fun _ _ _ h => h) (Or.inl ⟨by rfl, ?_⟩) (by assumption) ?_
                  rotate_left
                  · ((intro w0 hSw); (try dsimp only at hSw); go_simp; (try with_reducible rfl))
                  change wpAnyH _ _ _ _ _ _ _ (Act.put _ (some 111) _) _
                  try simp only [Act.put, List.setIfInBounds_toArray, List.set_cons_zero, List.set_cons_succ]
                  refine wpAnyH_ready (rs := [9]) (by kernel_rfl) (by simp) ?_
                  refine AllReadyH.cons rfl (fun K hK => ?_) AllReadyH.nil
                  go_simp
                  go_at_call 28; (with_reducible refine (HB1.out _ (km_rd (by assumption))).mono ?_); rintro e wn ⟨rfl, hbn⟩
                  refine hK.out _ _ ?_ (fun hHeld2 => ?_)
                  · exact k5n HP.out HQ.out (by assumption) hbn
                  clear hK K hHeld
                  have hHeld := hHeld2; clear hHeld2
                  try change wpAnyH _ _ _ _ _ _ _ (Act.put _ (some 112) _) _
                  try simp only [Act.put, List.setIfInBounds_toArray, List.set_cons_zero, List.set_cons_succ]
                  refine wpAnyH_take (i := 10) (v := ?_) rfl (by kernel_rfl) (by kernel_rfl) (by kernel_rfl) (fun _ _ _ h => h) (Or.inl ⟨by rfl, ?_⟩) (by assumption) ?_
                  rotate_left
                  · ((intro w0 hSw); (try dsimp only at hSw); go_simp; (try with_reducible rfl))
                  change wpAnyH _ _ _ _ _ _ _ (Act.put _ (some 113) _) _
                  try simp only [Act.put, List.setIfInBounds_toArray, List.set_cons_zero, List.set_cons_succ]
                  refine wpAnyH_take (i := 11) (v := ?_) rfl (by kernel_rfl) (by kernel_rfl) (by kernel_rfl) (fun _ _ _ h => h) (Or.inl ⟨by rfl, ?_⟩) (by assumption) ?_
                  rotate_left
                  · ((intro w0 hSw); (try dsimp only at hSw); go_simp; (try with_reducible rfl))
                  change wpAnyH _ _ _ _ _ _ _ (Act.put _ (some 114) _) _
                  try simp only [Act.put, List.setIfInBounds_toArray, List.set_cons_zero, List.set_cons_succ]
                  refine wpAnyH_take (i := 12) (v := ?_) rfl (by kernel_rfl) (by kernel_rfl) (by kernel_rfl) (fun _ _ _ h => h) (Or.inl ⟨by rfl, ?_⟩) (by assumption) ?_
                  rotate_left
                  · ((intro w0 hSw); (try dsimp only at hSw); go_simp; (try with_reducible rfl))
                  change wpAnyH _ _ _ _ _ _ _ (Act.put _ (some 115) _) _
                  try simp only [Act.put, List.setIfInBounds_toArray, List.set_cons_zero, List.set_cons_succ]
                  refine wpAnyH_take (i := 13) (v := ?_) rfl (by kernel_rfl) (by kernel_rfl) (by kernel_rfl) (fun _ _ _ h => h) (Or.inl ⟨by rfl, ?_⟩) (by assumption) ?_
                  rotate_left
                  · ((intro w0 hSw); (try dsimp only at hSw); go_simp; (try with_reducible rfl))
                  change wpAnyH _ _ _ _ _ _ _ (Act.put _ (some 116) _) _
                  try simp only [Act.put, List.setIfInBounds_toArray, List.set_cons_zero, List.set_cons_succ]
                  refine wpAnyH_take (i := 14) (v := ?_) rfl (by kernel_rfl) (by kernel_rfl) (by kernel_rfl) (fun _ _ _ h => h) (Or.inl ⟨by rfl, ?_⟩) (by assumption) ?_
                  rotate_left
                  · ((intro w0 hSw); (try dsimp only at hSw); go_simp; (try with_reducible rfl))
                  change wpAnyH _ _ _ _ _ _ _ (Act.put _ (some 117) _) _
                  try simp only [Act.put, List.setIfInBounds_toArray, List.set_cons_zero, List.set_cons_succ]
                  refine wpAnyH_take (i := 15) (v := ?_) rfl (by kernel_rfl) (by kernel_rfl) (by kernel_rfl) (fun _ _ _ h => h) (Or.inl ⟨by rfl, ?_⟩) (by assumption) ?_
                  rotate_left
                  · ((intro w0 hSw); (try dsimp only at hSw); go_simp; (try with_reducible rfl))
                  change wpAnyH _ _ _ _ _ _ _ (Act.put _ (some 118) _) _
                  try simp only [Act.put, List.setIfInBounds_toArray, List.set_cons_zero, List.set_cons_succ]
                  refine wpAnyH_take (i := 16) (v := ?_) rfl (by kernel_rfl) (by kernel_rfl) (by kernel_rfl) (fun _ _ _ h => h) (Or.inl ⟨by rfl, ?_⟩) (by assumption) ?_
                  rotate_left
                  · ((intro w0 hSw); (try dsimp only at hSw); go_simp; (try with_reducible rfl))
                  change wpAnyH _ _ _ _ _ _ _ (Act.put _ (some 119) _) _
                  try simp only [Act.put, List.setIfInBounds_toArray, List.set_cons_zero, List.set_cons_succ]
                  refine wpAnyH_take (i := 17) (v := ?_) rfl (by kernel_rfl) (by kernel_rfl) (by kernel_rfl) (fun _ _ _ h => h) (Or.inl ⟨by rfl, ?_⟩) (by assumption) ?_
                  rotate_left
                  · ((intro w0 hSw); (try dsimp only at hSw); go_simp; (try with_reducible rfl))
                  change wpAnyH _ _ _ _ _ _ _ (Act.put _ (some 120) _) _
                  try simp only [Act.put, List.setIfInBounds_toArray, List.set_cons_zero, List.set_cons_succ]
                  refine wpAnyH_take (i := 18) (v := ?_) rfl (by kernel_rfl) (by kernel_rfl) (by kernel_rfl) (fun _ _ _ h => h) (Or.inl ⟨by rfl, ?_⟩) (by assumption) ?_
                  rotate_left
                  · ((intro w0 hSw); (try dsimp only at hSw); go_simp; (try with_reducible rfl))
                  change wpAnyH _ _ _ _ _ _ _ (Act.put _ (some 121) _) _
                  try simp only [Act.put, List.setIfInBounds_toArray, List.set_cons_zero, List.set_cons_succ]
                  refine wpAnyH_take (i := 19) (v := ?_) rfl (by kernel_rfl) (by kernel_rfl) (by kernel_rfl) (fun _ _ _ h => h) (Or.inl ⟨by rfl, ?_⟩) (by assumption) ?_
                  rotate_left
                  · ((intro w0 hSw); (try dsimp only at hSw); go_simp; (try with_reducible rfl))
                  change wpAnyH _ _ _ _ _ _ _ (Act.put _ (some 122) _) _
                  try simp only [Act.put, List.setIfInBounds_toArray, List.set_cons_zero, List.set_cons_succ]
                  refine wpAnyH_ready (rs := [20]) (by kernel_rfl) (by simp) ?_
                  refine AllReadyH.cons rfl (fun K hK => ?_) AllReadyH.nil
                  go_simp
                  go_at_call 28; (with_reducible refine (HB2.out _ (km_rd (by assumption))).mono ?_); rintro e wn ⟨rfl, hbn⟩
                  refine hK.out _ _ ?_ (fun hHeld2 => ?_)
                  · exact k5n HP.out HQ.out (by assumption) hbn
                  clear hK K hHeld
                  have hHeld := hHeld2; clear hHeld2
                  try change wpAnyH _ _ _ _ _ _ _ (Act.put _ (some 123) _) _
                  try simp only [Act.put, List.setIfInBounds_toArray, List.set_cons_zero, List.set_cons_succ]
                  refine wpAnyH_take (i := 21) (v := ?_) rfl (by kernel_rfl) (by kernel_rfl) (by kernel_rfl) (fun _ _ _ h => h) (Or.inl ⟨by rfl, ?_⟩) (by assumption) ?_
                  rotate_left
                  · ((intro w0 hSw); (try dsimp only at hSw); go_simp; (try with_reducible rfl))
                  change wpAnyH _ _ _ _ _ _ _ (Act.put _ (some 124) _) _
                  try simp only [Act.put, List.setIfInBounds_toArray, List.set_cons_zero, List.set_cons_succ]
                  refine wpAnyH_done (by kernel_rfl) ?_ _
                  have HE := Lib.hid (by assumption : Km _ _ _ _ _ _ _ _ _ _ ∧ _).1
                  go_wp2_with fail
                  go_roundg g3
                  case measure => omega
                  case rel => exact ⟨m + 1, by omega, by go_num, HE.out⟩
            | succ g2 =>
              have hjlt : (j : Int) < (ls.length : Int) := by omega
              have hj' : j < ls.length := by omega
              obtain ⟨bs, os, rfl, hlt0, V1⟩ := HO.out.s.at k hk'
              obtain ⟨bz, oz, rfl, hlt1, V2⟩ := HO.out.z.at j hj'
              clear V1 V2
              have hcx := rd_cell HO.out.s k hk'
              have hcy := rd_cell HO.out.z j hj'
              have HN : Hid (inI S ls k j = (((ls[j] : Nat) : Int) == ((S[k] : Nat) : Int))) := inI_get hk' hj'
              generalize S[k] = x at hcx HN
              generalize ls[j] = y at hcy HN
              have HA := Lib.hid (an_s hf.out)
              rw [HN.out] at HA
              cases f with
              | true =>
                go_wp2_with fail
                go_quiet (fail)
                clear hcx hcy
                have HO2 := Lib.hid (HO.out.next (drewN_below _ nq))
                clear HO
                go_wp2_with fail
                go_roundg g2
                case measure => omega
                case rel => exact ⟨j + 1, true, by omega, by go_num, rfl, HO2.out, HA⟩
              | false =>
                cases c1 : ((y : Int) == (x : Int)) with
                | true =>
                  rw [c1] at HA
                  go_wp2_with fail
                  go_quiet (fail)
                  clear hcx hcy
                  have HO2 := Lib.hid (HO.out.next (drewN_below _ nq))
                  clear HO
                  go_wp2_with fail
                  go_roundg g2
                  case measure => omega
                  case rel => exact ⟨j + 1, true, by omega, by go_num, rfl, HO2.out, HA⟩
                | false =>
                  rw [c1] at HA
                  go_wp2_with fail
                  go_quiet (fail)
                  clear hcx hcy
                  have HO2 := Lib.hid (HO.out.next (drewN_below _ nq))
                  clear HO
                  go_wp2_with fail
                  go_roundg g2
                  case measure => omega
                  case rel => exact ⟨j + 1, false, by omega, by go_num, rfl, HO2.out, HA⟩
    | succ g =>
      have hilt : (i : Int) < (ls.length : Int) := by omega
      have hi' : i < ls.length := by omega
      go_wp2_with fail
      go_loopg [10, 11] S.length (fun g s k W => ∃ (j : Nat) (f : Bool), j + g = S.length ∧ k = .int .i64 j ∧ s = .bool f ∧ Km w (.slice q1 ns.length cap) (.slice q up.length cap') (.slice a ls.length c) (.slice sa S.length sc) ns up ls S W ∧ Hid (f = (List.range j).any (smI up S ls i)))
      case atStart => exact ⟨0, false, by omega, rfl, rfl, HO.out, rfl⟩
      case round =>
        clear HO
        obtain ⟨j, f, hjg, rfl, rfl, hoz, hf⟩ := hrel
        have HO := Lib.hid hoz; clear hoz
        cases gk with
        | zero =>
          have hjz : ¬ ((j : Int) < (S.length : Int)) := by omega
          have hft : f = true := by
            have h := hf.out
            rw [show j = S.length by omega, sm_all HSd.out hi'] at h
            exact h
          subst hft
          clear hf
          go_wp2_with fail
          go_roundg g
          case measure => omega
          case rel => exact ⟨i + 1, by omega, by go_num, HO.out⟩
        | succ g2 =>
          have hjlt : (j : Int) < (S.length : Int) := by omega
          have hj' : j < S.length := by omega
          obtain ⟨bs, os, rfl, hlt0, V1⟩ := HO.out.s.at j hj'
          obtain ⟨bz, oz, rfl, hlt1, V2⟩ := HO.out.z.at i hi'
          clear V1 V2
          have HP : Hid (∀ W, Km w (.slice q1 ns.length cap) (.slice q up.length cap') (.slice (some ⟨bz, oz, none⟩) ls.length c) (.slice (some ⟨bs, os, none⟩) S.length sc) ns up ls S W → W.cell? ⟨bs, os + j, none⟩ = some (.int .i64 ((S[j] : Nat) : Int))) := fun W h => rd_cell h.s j hj'
          have HQ : Hid (∀ W, Km w (.slice q1 ns.length cap) (.slice q up.length cap') (.slice (some ⟨bz, oz, none⟩) ls.length c) (.slice (some ⟨bs, os, none⟩) S.length sc) ns up ls S W → W.cell? ⟨bz, oz + i, none⟩ = some (.int .i64 ((ls[i] : Nat) : Int))) := fun W h => rd_cell h.z i hi'
          have HN : Hid (smI up S ls i j = le up S[j] ls[i]) := smI_get hi' hj'
          have hxl := HSd.out.all S[j] (List.getElem_mem hj')
          have hyl := HG.out.all ls[i] (List.getElem_mem hi')
          generalize S[j] = x at HP HN hxl
          generalize ls[i] = y at HQ HN hyl
          have HA := Lib.hid (an_s hf.out)
          rw [HN.out] at HA
          cases f with
          | true =>
            have hcx := HP.out _ HO.out
            have hcy := HQ.out _ HO.out
            have hx0 := HO.out.l.x0
            have hx1 := HO.out.l.x1
            go_wp2_with fail
            go_quiet (fail)
            clear hcx hcy hx0 hx1
            have HO2 := Lib.hid (HO.out.next (drewN_below _ nq))
            clear HO
            go_wp2_with fail
            go_roundg g2
            case measure => omega
            case rel => exact ⟨j + 1, true, by omega, by go_num, rfl, HO2.out, HA⟩
          | false =>
            have HB0 : Hid (∀ W, RdL W.heap.size W (.agg #[.slice q1 ns.length cap, .slice q up.length cap']) ns up → Calls Try.prog 28 #[.agg #[.slice q1 ns.length cap, .slice q up.length cap'], .int .i64 (x : Nat), .int .i64 (y : Nat)] W fun e w' => e = .returned (.bool (le up x y)) ∧ Below W.heap.size W w') := fun W hW => rbel_any _ ns up x y W hW (by omega) (by omega)
            generalize le up x y = t at HB0 HA
            go_wp2_with fail
            have hS := HO.out
            clear HO
            go_region_held3 (fun W => Km w (.slice q1 ns.length cap) (.slice q up.length cap') (.slice (some ⟨bz, oz, none⟩) ls.length c) (.slice (some ⟨bs, os, none⟩) S.length sc) ns up ls S W ∧ W.cell? ⟨w.heap.size, 0, none⟩ = some (.slice q1 ns.length cap) ∧ W.cell? ⟨w.heap.size, 1, none⟩ = some (.slice q up.length cap') ∧ W.cell? ⟨bs, os + j, none⟩ = some (.int .i64 (x : Int)) ∧ W.cell? ⟨bz, oz + i, none⟩ = some (.int .i64 (y : Int)))
              ((first | exact k5n HP.out HQ.out (by assumption) hbn | exact k5 HP.out HQ.out (hS.next (Below.refl _ _).drew)))
              ((go_at_call 28; refine (HB0.out _ (km_rd (by assumption))).mono ?_; rintro e wn ⟨rfl, hbn⟩))
            have HE := Lib.hid (by assumption : Km _ _ _ _ _ _ _ _ _ _ ∧ _).1
            go_wp2_with fail
            go_roundg g2
            case measure => omega
            case rel => exact ⟨j + 1, t, by omega, by go_num, rfl, HE.out, HA⟩

theorem lawLeast_any (v u : Value) (ns : List ByteArray) (up : List UInt8) (zs : List Int) (b : Int) (w : World) (hv : RdL w.heap.size w v ns up) (hz : RdI w.heap.size w u zs) (hb0 : 0 ≤ b) (hb1 : b < 256) :
    Calls Try.prog 7 #[v, u, .int .u8 b] w fun e w' => e = .returned (.bool true) ∧ Below w.heap.size w w' := by
  cases e0 : farB ns up
  · by_cases h8 : (80 : Int) < (zs.length : Int)
    · exact lawLeast_long v u ns up zs b w hv hz e0 h8
    · cases e1 : ((lck ns up zs).2 != 0)
      · obtain ⟨ls, rfl, hg⟩ := gl_of e1
        exact lawLeast_ok v u ns up ls b w hv (rd_nat hz) e0 hg hb0 hb1
      · exact lawLeast_bad v u ns up zs b w hv hz e0 h8 e1
  · exact lawLeast_far v u ns up zs b w hv hz e0
end Go.Proofs.Ytdkljpoecdinjaa
