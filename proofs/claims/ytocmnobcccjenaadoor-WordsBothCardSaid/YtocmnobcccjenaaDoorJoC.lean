/- The reference's Join. -/
import Derived.Test.YtocmnobcccjenaaDoorJoB
import Derived.Test.YtocmnobcccjenaaDoorQuD
namespace Go.Proofs.YtocmnobcccjenaaDoor
open Go.RowKit

theorem byt_app (a b : ByteArray) : byt (a ++ b) = byt a ++ byt b := by
  unfold byt; rw [ByteArray.data_append, Array.toList_append]
theorem join_snoc (sep : List UInt8) : ∀ (l : List (List UInt8)) (x : List UInt8), l ≠ [] → Lib.join (l ++ [x]) sep = Lib.join l sep ++ sep ++ x
  | [], _, h => absurd rfl h
  | a :: r, x, _ => by
    rw [List.cons_append, Lib.join_cons, Lib.join_cons]
    unfold Lib.joinTail
    simp [List.append_assoc]
theorem jL_first {l : List Fd} {k : Nat} (h : k < l.length) (hk : k = 0) : jL (l.take (k + 1)) = ptF l[k] := by
  subst hk
  unfold jL
  rw [map_snocF h]
  show Lib.join [ptF l[0]] [32] = _
  exact Lib.join_one _ _
theorem jL_snoc {l : List Fd} {k : Nat} (h : k < l.length) (hk : 0 < k) : jL (l.take (k + 1)) = jL (l.take k) ++ [32] ++ ptF l[k] := by
  unfold jL
  rw [map_snocF h]
  refine join_snoc _ _ _ ?_
  intro e
  have := congrArg List.length e
  rw [List.length_map, List.length_take, List.length_nil] at this
  omega
theorem jL_take_len {l : List Fd} (hm : ∀ f ∈ l, f.1.length ≤ 2000) (k : Nat) (h : l.length ≤ 64) : (jL (l.take k)).length ≤ 64 * 8003 := by
  have h1 := join_len ((l.take k).map ptF) [32] 8002 (fun x hx => by
    obtain ⟨f, hf, rfl⟩ := List.mem_map.1 hx
    exact pt_len (hm f (List.mem_of_mem_take hf)))
  rw [List.length_map, List.length_take] at h1
  have h2 : min k l.length * (8002 + [(32 : UInt8)].length) ≤ 64 * 8003 := Nat.mul_le_mul (by omega) (Nat.le_refl 8003)
  exact Nat.le_trans h1 h2

set_option maxRecDepth 100000 in
set_option maxHeartbeats 8000000 in
theorem rjoin_any (v : Value) (l : List Fd) (w : World) (hv : FldB w.heap.size w v l) :
    Calls Tryd.prog 8 #[v] w fun e w' => e = .returned (.tuple #[.string ⟨(jV l).toArray⟩, .int .i64 (jE l)]) ∧ Below w.heap.size w w' := by
  obtain ⟨a, cap, rfl, hcap, hcell⟩ := hv
  have HC := Lib.hid hcell
  clear hcell
  by_cases h64 : 64 < l.length
  · have HE : Hid (jE l = 3) := jE_too (by unfold tooB; rw [decide_eq_true h64]; simp)
    have HVn : Hid (jV l = []) := jV_no HE.out (by decide)
    go_enter Tryd.func8, Tryd.ntmps8
    go_wp2_with fail
    go_ret2
    exact ⟨by rw [HE.out, HVn.out]; rfl, Below.refl _ _⟩
  · go_enter Tryd.func8, Tryd.ntmps8
    go_wp2_with fail
    go_loopg [4] l.length (fun g i wr => ∃ k : Nat, k + g = l.length ∧ i = .int .i64 k ∧ w = wr ∧ Hid (longB (l.take k) = false))
    case atStart => exact ⟨0, by omega, rfl, rfl, rfl⟩
    case round =>
      obtain ⟨k, hkg, rfl, rfl, hq⟩ := hrel
      cases gk with
      | zero =>
        have hkz : ¬ ((k : Int) < (l.length : Int)) := by omega
        have ht : tooB l = false := by
          have := hq.out
          rw [List.take_of_length_le (by omega)] at this
          unfold tooB; rw [this, decide_eq_false h64]; rfl
        obtain ⟨_, hmx⟩ := too_no ht
        have HT := Lib.hid ht
        have HM := Lib.hid hmx
        clear ht hmx hq
        go_wp2_with fail
        go_loopg [5, 6] l.length (fun g o i wr => ∃ (k : Nat) (S : ByteArray), k + g = l.length ∧ i = .int .i64 k ∧ o = .string S ∧ Below w.heap.size w wr ∧ Hid (byt S = jL (l.take k)) ∧ Hid ((l.take k).all okF = true))
        case atStart => exact ⟨0, ⟨#[]⟩, by omega, rfl, rfl, Below.refl _ _, rfl, rfl⟩
        case round =>
          obtain ⟨k2, S, hkg2, rfl, rfl, hbl, hS, hok⟩ := hrel
          have hsl := jL_take_len HM.out k2 (by omega)
          rw [← hS.out, byt_len] at hsl
          cases gk with
          | zero =>
            have hkz2 : ¬ ((k2 : Int) < (l.length : Int)) := by omega
            have hS2 : byt S = jL l := by
              have := hS.out
              rwa [List.take_of_length_le (by omega)] at this
            have hok2 : l.all okF = true := by
              have := hok.out
              rwa [List.take_of_length_le (by omega)] at this
            have hjl : (jL l).length = S.size := by rw [← hS2, byt_len]
            by_cases h8 : (8192 : Int) < (S.size : Int)
            · have HE : Hid (jE l = 3) := jE_long HT.out hok2 (by omega)
              have HVn : Hid (jV l = []) := jV_no HE.out (by decide)
              clear hS hok hS2 hok2 hjl
              go_wp2_with fail
              go_ret2
              exact ⟨by rw [HE.out, HVn.out]; rfl, hbl⟩
            · have HE : Hid (jE l = 0) := jE_ok HT.out hok2 (by omega)
              have HVn : Hid (jV l = byt S) := by unfold Hid; rw [jV_ok HE.out, hS2]
              clear hS hok hS2 hok2 hjl
              go_wp2_with fail
              go_ret2
              exact ⟨by rw [HE.out, HVn.out, mk_byt]; rfl, hbl⟩
          | succ g2 =>
            have hklt : (k2 : Int) < (l.length : Int) := by omega
            have hk : k2 < l.length := by omega
            obtain ⟨b, off, rfl, hb, hc⟩ := HC.out (by intro e; rw [e] at hk; simp at hk)
            obtain ⟨hc1, hc2⟩ := hc k2 hk
            have hd1 : wr.cell? ⟨b, off + k2 * 2, none⟩ = some (.string ⟨l[k2].1.toArray⟩) := (hbl.cell (p := ⟨b, off + k2 * 2, none⟩) hb).trans hc1
            have hd2 : wr.cell? ⟨b, off + k2 * 2 + 1, none⟩ = some (.bool l[k2].2) := (hbl.cell (p := ⟨b, off + k2 * 2 + 1, none⟩) hb).trans hc2
            have HA := Lib.hid (fun h => all_snocF hk hok.out h)
            have HN := Lib.hid (all_noF hk)
            have HF := Lib.hid (jL_first hk)
            have HJ := Lib.hid (jL_snoc hk)
            have hmk := HM.out l[k2] (List.getElem_mem hk)
            have hxe : byt (⟨l[k2].1.toArray⟩ : ByteArray) = l[k2].1 := byt_mk _
            clear hc hc1 hc2 hok hxe
            generalize l[k2] = f at hd1 hd2 HA HN HF HJ hmk
            obtain ⟨xs, q⟩ := f
            obtain ⟨X, rfl⟩ : ∃ X : ByteArray, xs = byt X := ⟨⟨xs.toArray⟩, (byt_mk xs).symm⟩
            simp only [mk_byt] at hd1 hd2 hmk
            rw [byt_len] at hmk
            have hbe : okF (byt X, false) = brB (byt X) := rfl
            cases q with
            | true =>
              have HA2 := Lib.hid (HA.out rfl)
              have hql := quo_len (byt X)
              rw [byt_len] at hql
              have hqs : (⟨(quoF (byt X)).toArray⟩ : ByteArray).size = (quoF (byt X)).length := rfl
              by_cases hk0 : k2 = 0
              · have HR : Hid (byt (S ++ ⟨(quoF (byt X)).toArray⟩) = jL (l.take (k2 + 1))) := by
                  unfold Hid
                  rw [byt_app, hS.out, HF.out hk0, hk0]
                  rw [byt_mk]; rfl
                have hk0i : ¬ (0 : Int) < (k2 : Int) := by omega
                clear hk0
                clear HA HN HF HJ hS
                go_wp2_with (go_at_call 21; refine (rquote_any X _ (by omega)).mono ?_; rintro e w3 ⟨rfl, hb3⟩)
                go_roundg g2
                case measure => omega
                case rel => exact ⟨k2 + 1, _, by omega, by go_num, rfl, hbl.trans (hb3.mono hbl.size), HR, HA2⟩
              · have HR : Hid (byt (S ++ ⟨#[32]⟩ ++ ⟨(quoF (byt X)).toArray⟩) = jL (l.take (k2 + 1))) := by
                  unfold Hid
                  rw [byt_app, byt_app, hS.out, HJ.out (by omega), byt_mk]
                  rfl
                have hk0i : (0 : Int) < (k2 : Int) := by omega
                clear HA HN HF HJ hS
                go_wp2_with (go_at_call 21; refine (rquote_any X _ (by omega)).mono ?_; rintro e w3 ⟨rfl, hb3⟩)
                go_roundg g2
                case measure => omega
                case rel => exact ⟨k2 + 1, _, by omega, by go_num, rfl, hbl.trans (hb3.mono hbl.size), HR, HA2⟩
            | false =>
              cases c1 : brB (byt X) with
              | true =>
                have HA2 := Lib.hid (HA.out (hbe.trans c1))
                by_cases hk0 : k2 = 0
                · have HR : Hid (byt (S ++ X) = jL (l.take (k2 + 1))) := by
                    unfold Hid
                    rw [byt_app, hS.out, HF.out hk0, hk0]
                    rfl
                  have hk0i : ¬ (0 : Int) < (k2 : Int) := by omega
                  clear hk0
                  clear HA HN HF HJ hS
                  go_wp2_with (go_at_call 20; refine (rbare_any X _ (by omega)).mono ?_; rw [c1]; rintro e w3 ⟨rfl, rfl⟩)
                  go_roundg g2
                  case measure => omega
                  case rel => exact ⟨k2 + 1, _, by omega, by go_num, rfl, hbl, HR, HA2⟩
                · have HR : Hid (byt (S ++ ⟨#[32]⟩ ++ X) = jL (l.take (k2 + 1))) := by
                    unfold Hid
                    rw [byt_app, byt_app, hS.out, HJ.out (by omega)]
                    rfl
                  have hk0i : (0 : Int) < (k2 : Int) := by omega
                  clear HA HN HF HJ hS
                  go_wp2_with (go_at_call 20; refine (rbare_any X _ (by omega)).mono ?_; rw [c1]; rintro e w3 ⟨rfl, rfl⟩)
                  go_roundg g2
                  case measure => omega
                  case rel => exact ⟨k2 + 1, _, by omega, by go_num, rfl, hbl, HR, HA2⟩
              | false =>
                have HE : Hid (jE l = 6) := jE_form HT.out (HN.out (hbe.trans c1))
                have HVn : Hid (jV l = []) := jV_no HE.out (by decide)
                clear HA HN HF HJ hS
                go_wp2_with (go_at_call 20; refine (rbare_any X _ (by omega)).mono ?_; rw [c1]; rintro e w3 ⟨rfl, rfl⟩)
                go_ret2
                exact ⟨by rw [HE.out, HVn.out]; rfl, hbl⟩
      | succ g =>
        have hklt : (k : Int) < (l.length : Int) := by omega
        have hk : k < l.length := by omega
        obtain ⟨b, off, rfl, hb, hc⟩ := HC.out (by intro e; rw [e] at hk; simp at hk)
        obtain ⟨hc1, hc2⟩ := hc k hk
        have HS := Lib.hid (long_snoc l k hk)
        have HN := Lib.hid (long_no l k hk)
        clear hc hc2
        by_cases hp : 2000 < l[k].1.length
        · have HE : Hid (jE l = 3) := jE_too (by unfold tooB; rw [HN.out hp]; rfl)
          have HVn : Hid (jV l = []) := jV_no HE.out (by decide)
          go_wp2_with fail
          go_ret2
          exact ⟨by rw [HE.out, HVn.out]; rfl, Below.refl _ _⟩
        · have HQ : Hid (longB (l.take (k + 1)) = false) := by unfold Hid; rw [HS.out, hq.out, decide_eq_false hp]; rfl
          go_wp2_with fail
          go_roundg g
          case measure => omega
          case rel => exact ⟨k + 1, by omega, by go_num, rfl, HQ⟩
end Go.Proofs.YtocmnobcccjenaaDoor
