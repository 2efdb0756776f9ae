/- The reference: sorted, Sort, Down, Up. -/
import Derived.Test.YtdkljpoecdinjaaLbM
namespace Go.Proofs.Ytdkljpoecdinjaa
open Go.RowKit

theorem Own.al {base : Nat} {w : World} {v : Value} {l : List Nat} (h : Own base w v l) (o : Obj) : Own base (w.alloc o) v l := World.ownsRow.alloc h o
theorem Own.bel {base : Nat} {w w' : World} {v : Value} {l : List Nat} (h : Own base w v l) (hb : Below w.heap.size w w') : Own base w' v l := own_below h hb
theorem lv_int (x k : Nat) : ((x : Int) == ((k : Int) + 1)) = decide (x = k + 1) := by
  rw [Bool.eq_iff_iff, beq_iff_eq, decide_eq_true_iff]; omega

set_option maxRecDepth 100000 in
set_option maxHeartbeats 4000000 in
theorem rsorted_any (v u : Value) (ns : List ByteArray) (up : List UInt8) (ls : List Nat) (w : World) (hv : RdL w.heap.size w v ns up) (hz : RdN w.heap.size w u ls) (hg : Good ns up) :
    Calls Try.prog 36 #[v, u] w (SoP up (fun b => decide (b ∈ ls)) w) := by
  have HL := Lib.hid hv
  obtain ⟨⟨vn, vu, rfl, hS, hB⟩, hsz⟩ := hv
  obtain ⟨q1, cap, rfl, hc, hc2, h⟩ := hS
  obtain ⟨q, cap', rfl, hc', hc2', h'⟩ := hB
  clear h h' hsz
  have HZ := Lib.hid hz
  obtain ⟨a, c, rfl, hl, hl2, h⟩ := hz
  clear h
  have HI := Lib.hid (Bx.new HL.out)
  have hu8 : up.length ≤ 8 := by have := hg.most; have := hg.len; omega
  have hle1 : ns.length ≤ up.length := by have := hg.len; omega
  have hle2 : up.length ≤ ns.length := by have := hg.len; omega
  have HG := Lib.hid hg
  clear hg
  obtain ⟨i0, hi, hz0, hz1, hz2⟩ := info_parts info3
  go_enter Try.func36, Try.ntmps36
  go_wp2_with fail
  go_loopg [5, 6] ns.length (fun g o i wr => ∃ k : Nat, k + g = ns.length ∧ i = .int .i64 ((k : Int) + 1) ∧ Bx w (.slice q1 ns.length cap) (.slice q up.length cap') ns up wr ∧ Own (w.heap.size + 1) wr o (srK up (fun b => decide (b ∈ ls)) k))
  case atStart => exact ⟨0, by omega, rfl, HI.out, World.ownsRow_nil _ _ _ _⟩
  case round =>
    clear HI
    obtain ⟨k, hkg, rfl, hix, hrow⟩ := hrel
    have HI := Lib.hid hix
    have hx0 := hix.x0
    have hx1 := hix.x1
    clear hix
    cases gk with
    | zero =>
      have hkz : ¬ ((k : Int) + 1 ≤ (ns.length : Int)) := by omega
      have HK : Hid (k = up.length) := by unfold Hid; omega
      have hrow2 := hrow
      rw [HK.out] at hrow2
      have HR := Lib.hid hrow2
      clear hrow2
      obtain ⟨oa, oc, rfl, V0, V1, V2⟩ := Own.rd HR.out
      clear hrow V0 V1 V2
      go_wp2_with fail
      go_ret
      exact ⟨oa, oc, rfl, Own.rd HR.out, HI.out.bel⟩
    | succ g =>
      have hlt : (k : Int) + 1 ≤ (ns.length : Int) := by omega
      go_wp2_with fail
      clear hx0 hx1
      go_loopg [5, 7] ns.length (fun g o i wr => ∃ (j : Nat) (O : Value), j + g = ns.length ∧ i = .int .i64 j ∧ O = o ∧ Bx w (.slice q1 ns.length cap) (.slice q up.length cap') ns up wr ∧ Own (w.heap.size + 1) wr O (srK up (fun b => decide (b ∈ ls)) k ++ srR up (fun b => decide (b ∈ ls)) k j))
      case atStart => exact ⟨0, _, by omega, rfl, rfl, HI.out, by simpa [srR] using hrow⟩
      case round =>
        clear HI hrow
        obtain ⟨j, O, hjg, rfl, rfl, hix, hrow⟩ := hrel
        have HI := Lib.hid hix
        have hx0 := hix.x0
        have hx1 := hix.x1
        have HP := Lib.hid hrow
        clear hix hrow
        cases gk with
        | zero =>
          have hjz : ¬ ((j : Int) < (ns.length : Int)) := by omega
          have HJ : Hid (j = up.length) := by unfold Hid; omega
          go_wp2_with fail
          go_roundg g
          case measure => omega
          case rel => exact ⟨k + 1, by omega, by go_num, HI.out, by rw [srK_succ, ← HJ.out]; exact HP.out⟩
        | succ g3 =>
          have hjlt : (j : Int) < (ns.length : Int) := by omega
          have hju : j < up.length := by omega
          have HLv : Hid (∀ W, RdL W.heap.size W (.agg #[.slice q1 ns.length cap, .slice q up.length cap']) ns up → Calls Try.prog 62 #[.agg #[.slice q1 ns.length cap, .slice q up.length cap'], .int .i64 (j : Nat)] W fun e w' => e = .returned (.int .i64 (lv up j)) ∧ Below W.heap.size W w') := fun W hW => level_any _ ns up j W hW HG.out hju
          have HYes : Hid (decide (lv up j = k + 1) = true → decide (j ∈ ls) = true → srR up (fun b => decide (b ∈ ls)) k (j + 1) = srR up (fun b => decide (b ∈ ls)) k j ++ [j]) := fun h1 h2 => srR_yes h1 h2
          have HNo : Hid ((decide (lv up j = k + 1) = false ∨ decide (j ∈ ls) = false) → srR up (fun b => decide (b ∈ ls)) k (j + 1) = srR up (fun b => decide (b ∈ ls)) k j) := fun h => srR_no h
          have hlv := lv_le up j
          have hli := lv_int (lv up j) k
          generalize lv up j = x at HLv HYes HNo hlv hli
          cases c1 : decide (x = k + 1) with
          | false =>
            have c0 : ((x : Int) == ((k : Int) + 1)) = false := by rw [hli, c1]
            have HS := Lib.hid (HNo.out (.inl c1))
            clear hli c1 HYes HNo
            go_wp2_with (go_at_call 62; refine (HLv.out _ HI.out.rd).mono ?_; rintro e w' ⟨rfl, hbn⟩; clear hx0 hx1; have HE := Lib.hid (And.intro (HI.out.next hbn) (HP.out.bel hbn)); clear hbn)
            go_roundg g3
            case measure => omega
            case rel => exact ⟨j + 1, _, by omega, by go_num, rfl, HE.out.1, by rw [HS.out]; exact HE.out.2⟩
          | true =>
            have c0 : ((x : Int) == ((k : Int) + 1)) = true := by rw [hli, c1]
            cases c2 : decide (j ∈ ls) with
            | false =>
              have HS := Lib.hid (HNo.out (.inr c2))
              have HHs : Hid (∀ W, RdN W.heap.size W (.slice a ls.length c) ls → Calls Try.prog 63 #[.slice a ls.length c, .int .i64 (j : Nat)] W fun e w' => e = .returned (.bool false) ∧ W = w') := fun W hW => by have := hasl_any _ ls j W hW; rwa [c2] at this
              clear hli c1 c2 HYes HNo
              go_wp2_with (first
                | (go_at_call 62; refine (HLv.out _ HI.out.rd).mono ?_; rintro e w' ⟨rfl, hbn⟩; clear hx0 hx1; have HE := Lib.hid (And.intro (HI.out.next hbn) (HP.out.bel hbn)); clear hbn)
                | (go_at_call 63; refine (HHs.out _ (HZ.out.next HE.out.1.bel)).mono ?_; rintro e wz ⟨rfl, rfl⟩))
              go_roundg g3
              case measure => omega
              case rel => exact ⟨j + 1, _, by omega, by go_num, rfl, HE.out.1, by rw [HS.out]; exact HE.out.2⟩
            | true =>
              have HS := Lib.hid (HYes.out c1 c2)
              have HHs : Hid (∀ W, RdN W.heap.size W (.slice a ls.length c) ls → Calls Try.prog 63 #[.slice a ls.length c, .int .i64 (j : Nat)] W fun e w' => e = .returned (.bool true) ∧ W = w') := fun W hW => by have := hasl_any _ ls j W hW; rwa [c2] at this
              have hl1 := srK_len up (fun b => decide (b ∈ ls)) k
              have hl2' := srR_len up (fun b => decide (b ∈ ls)) k j
              have hln : (srK up (fun b => decide (b ∈ ls)) k ++ srR up (fun b => decide (b ∈ ls)) k j).length ≤ 16 := by rw [List.length_append]; omega
              have hrow := HP.out
              clear hli c1 c2 HYes HNo hl1 hl2' HP
              generalize hL : srK up (fun b => decide (b ∈ ls)) k ++ srR up (fun b => decide (b ∈ ls)) k j = L at hrow hln
              have HLL := Lib.hid hL
              have HRw := Lib.hid hrow
              clear hL hrow
              go_wp2_with (first
                | (go_at_call 62; refine (HLv.out _ HI.out.rd).mono ?_; rintro e w9 ⟨rfl, hbn⟩; clear hx0 hx1; have HE := Lib.hid (HI.out.next hbn); have hrow := HRw.out.bel hbn; have hw9 := HE.out.lt; clear hbn)
                | (go_at_call 63; refine (HHs.out _ (HZ.out.next HE.out.bel)).mono ?_; rintro e wz ⟨rfl, rfl⟩)
                | (at_builtin; refine wpList_append_own _ rfl _ _ 26 rfl (w.heap.size + 1) 3 i0 (.int .i64 0) 1 8 Try.underlying26 hi hz0 hz1 hz2 rfl (by decide) _ _ _ rfl (World.ownsRow.alloc hrow _) ⟨w9.heap.size, 0, none⟩ 1 1 [.int .i64 j] rfl rfl (cells_new w9 #[.int .i64 j] _ _) (by simp [Value.oneCell']) (by unfold maxLen; omega) (by omega) (by simp; omega) ?_; intro v4 w4 hown4 hgrow4 _))
              go_roundg g3
              case measure => omega
              case rel => exact ⟨j + 1, _, by omega, by go_num, rfl, bx_up HE.out (((Below.refl (w.heap.size + 1) w9).alloc (by omega) _).grown hgrow4 (by simp; omega) (fun j e => (World.ownsRow.lt hrow j e).1)) HL.out, by rw [HS.out, ← List.append_assoc, HLL.out]; exact own_snoc hown4⟩
end Go.Proofs.Ytdkljpoecdinjaa
