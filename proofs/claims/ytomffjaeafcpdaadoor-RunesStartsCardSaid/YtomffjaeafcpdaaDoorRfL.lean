/- The reference's Starts, Back and On. -/
import Derived.Test.YtomffjaeafcpdaaDoorRfK
import Derived.Test.YtomffjaeafcpdaaDoorRuT
namespace Go.Proofs.YtomffjaeafcpdaaDoor
open Go.RowKit

theorem sta_step {L : List Int} {k n r : Nat} {pre : List (Nat × Nat)} (h : L ++ [(k : Int)] = (0 :: pre.map (·.2)).map fun (z : Nat) => (z : Int)) :
    (L ++ [(k : Int)]) ++ [((k + n : Nat) : Int)] = (0 :: (pre ++ [(r, k + n)]).map (·.2)).map fun (z : Nat) => (z : Int) := by
  rw [h]; simp
theorem sta_len {L : List Int} {k : Nat} {pre : List (Nat × Nat)} (h : L ++ [(k : Int)] = (0 :: pre.map (·.2)).map fun (z : Nat) => (z : Int)) : L.length = pre.length := by
  have := congrArg List.length h
  simp at this
  exact this

set_option maxRecDepth 100000 in
set_option maxHeartbeats 4000000 in
theorem rstarts_any (v : Value) (s : List UInt8) (w : World) (hv : RdB w.heap.size w v s) :
    Calls Tryd.prog 23 #[v] w fun e w' => ∃ u, e = .returned (.tuple #[u, .int .i64 ((chkE s : Nat) : Int)]) ∧ Ins 3 w' w.heap.size u (staV s) ∧ Below w.heap.size w w' := by
  have HV := Lib.hid hv
  have HC := Lib.hid (rcheck_any v s w hv)
  obtain ⟨a, cap, rfl, hcap, hc2, _⟩ := hv
  by_cases hc : chkE s = 0
  · have hs := ((chkE_ok s).1 hc).1
    have HCK := Lib.hid hc
    rw [hc] at HC
    have HG : Hid (staV s = (sts s).map fun (z : Nat) => (z : Int)) := by unfold Hid staV; rw [if_pos hc]
    have hs1 : (s.length : Int) ≤ 8000 := by omega
    rw [hc]
    clear hc
    go_enter Tryd.func23, Tryd.ntmps23
    go_wp2_with (go_at_call 14; refine HC.out.mono ?_; rintro e w0 ⟨rfl, hb0⟩; have HB0 := Lib.hid hb0; clear hb0)
    go_loopg [6, 7] s.length (fun g o i wr => ∃ (k : Nat) (pre : List (Nat × Nat)) (u : Value) (L : List Int), o = u ∧ Way s k pre ∧ s.length ≤ k + g ∧ i = .int .i64 (k : Int) ∧ Ins 3 wr w.heap.size u L ∧ Hid (L ++ [(k : Int)] = (0 :: pre.map (·.2)).map fun (z : Nat) => (z : Int)) ∧ Below w.heap.size w wr)
    case atStart => exact ⟨0, [], _, [], rfl, Way.start s, by omega, rfl, World.ownsRow_nil _ _ _ _, rfl, HB0.out⟩
    case round =>
      obtain ⟨k, pre, u, L, rfl, hi, hg, rfl, ho, HE, hb⟩ := hrel
      have HI := Lib.hid hi
      have HB := Lib.hid hb
      have HO := Lib.hid ho
      have hle := hi.le
      have hpl := hi.small
      have hll := sta_len HE.out
      clear hi hb HC HB0
      obtain ⟨ua, uc, rfl⟩ := own_len ho
      clear ho
      have HPL : Hid (L.length ≤ 8000) := by unfold Hid; omega
      have HY := Lib.hid (HB.out.alloc HB.out.size (.cells #[.int .i64 (k : Int)] 3))
      have HZ := Lib.hid (own_below HO.out ((Below.refl wr.heap.size wr).alloc (Nat.le_refl _) (.cells #[.int .i64 (k : Int)] 3)))
      have HR := Lib.hid (rdi_new wr [(k : Int)] 3)
      clear hll hpl
      by_cases hk : k < s.length
      · have hki : (k : Int) < (s.length : Int) := by omega
        obtain ⟨r, n, hd⟩ := HI.out.ok HCK.out hk
        have HD := Lib.hid (fun W hW => rdec_at (HV.out.next (w' := W) hW) (by omega) hk hd)
        obtain ⟨n1, n2, n4, hst⟩ := HI.out.step hk hd
        have HS := Lib.hid hst
        have hn4 : (n : Int) ≤ 4 := by omega
        have hkn : (k : Int) + (n : Int) ≤ 8000 := by omega
        cases gk with
        | zero => omega
        | succ g =>
          have HGG : Hid (s.length ≤ k + n + g) := by unfold Hid; omega
          clear hst hd HI hk hle hg n1 n2 n4 hs hcap
          go_wp2_with (first
            | (at_builtin; refine wpList_append_ns (by simp [Region.wanted]) _ _ rfl w.heap.size _ _ rfl HZ.out _ _ rfl _ HR.out (nil_some _ _ _) ?c1 ?c2 ?_; rotate_left 2; intro u2 w2 hu2 hg2; have HB3 := Lib.hid (HY.out.grown hg2 HY.out.size (fun j e => (HZ.out.lt j e).1)); have HU := Lib.hid hu2; clear hu2 hg2)
            | (go_at_call 8; refine (HD.out _ HB3.out).mono ?_; rintro e w1 ⟨rfl, hb1⟩; have HB2 := Lib.hid (HB3.out.trans (hb1.mono HB3.out.size)); have HW := Lib.hid (own_below HU.out hb1); clear hb1))
          case c1 => have := HPL.out; simp; omega
          case c2 => exact HY.out.size
          go_roundg g
          case measure => omega
          case rel => exact ⟨k + n, _, _, _, rfl, HS.out, HGG.out, by go_num, HW.out, sta_step HE.out, HB2.out⟩
      · have hki : ¬ (k : Int) < (s.length : Int) := by omega
        have HQ := Lib.hid (HI.out.done hk).2
        clear HI hk hle hg hs hcap
        go_wp2_with (first
            | (at_builtin; refine wpList_append_ns (by simp [Region.wanted]) _ _ rfl w.heap.size _ _ rfl HZ.out _ _ rfl _ HR.out (nil_some _ _ _) ?c1 ?c2 ?_; rotate_left 2; intro u2 w2 hu2 hg2; have HB3 := Lib.hid (HY.out.grown hg2 HY.out.size (fun j e => (HZ.out.lt j e).1)); have HU := Lib.hid hu2; clear hu2 hg2))
        case c1 => have := HPL.out; simp; omega
        case c2 => have := HY.out.size; simpa using this
        go_ret2
        rw [HG.out]
        unfold sts
        rw [HQ.out, ← HE.out]
        exact ⟨_, rfl, HU.out, HB3.out⟩
  · have HG : Hid (staV s = []) := by unfold Hid staV; rw [if_neg hc]
    have e0 : (((chkE s : Nat) : Int) != 0) = true := by rw [bne_iff_ne]; omega
    generalize chkE s = ce at e0 HC ⊢
    clear hc
    go_enter Tryd.func23, Tryd.ntmps23
    go_wp2_with (go_at_call 14; refine HC.out.mono ?_; rintro e w0 ⟨rfl, hb0⟩; have HB0 := Lib.hid hb0; clear hb0)
    go_ret2
    rw [HG.out]
    exact ⟨_, rfl, World.ownsRow_nil _ _ _ _, HB0.out⟩

/-- The last of some places that is not above n. -/
def bkG (n : Nat) : Nat → List Nat → Nat
  | c, [] => c
  | c, e :: r => bkG n (if e ≤ n then e else c) r
theorem bkG_far (n : Nat) : ∀ (es : List Nat) (c d : Nat), ups d es → n < d → bkG n c es = c
  | [], _, _, _, _ => rfl
  | e :: r, c, d, ⟨h1, _, h3⟩, h => by
    unfold bkG
    rw [if_neg (by omega)]
    exact bkG_far n r c e h3 (by omega)
theorem bkG_eq (n : Nat) : ∀ (es : List Nat) (c : Nat), ups c es → c ≤ n → bkG n c es = backF n c es
  | [], _, _, _ => rfl
  | e :: r, c, ⟨_, _, h3⟩, h => by
    unfold bkG backF
    by_cases q : n < e
    · rw [if_neg (by omega), if_pos q]
      exact bkG_far n r c e h3 q
    · rw [if_pos (by omega), if_neg q]
      exact bkG_eq n r e h3 (by omega)
theorem bkG_snoc (n : Nat) : ∀ (es : List Nat) (c e : Nat), bkG n c (es ++ [e]) = if e ≤ n then e else bkG n c es
  | [], _, _ => rfl
  | x :: r, c, e => by
    rw [List.cons_append]
    unfold bkG
    exact bkG_snoc n r _ e
theorem bkG_sts (s : List UInt8) (n : Nat) : bkG n 0 (sts s) = backV s n := by
  unfold sts backV
  rw [show bkG n 0 (0 :: (rns s).map (·.2)) = bkG n 0 ((rns s).map (·.2)) by unfold bkG; rw [if_pos (Nat.zero_le _)]; cases (rns s).map (·.2) <;> rfl]
  exact bkG_eq n _ 0 (rns_ups s) (Nat.zero_le _)
end Go.Proofs.YtomffjaeafcpdaaDoor
