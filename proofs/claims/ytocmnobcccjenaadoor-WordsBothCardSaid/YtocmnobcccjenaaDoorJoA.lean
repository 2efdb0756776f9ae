/- The law's far. -/
import Derived.Test.YtocmnobcccjenaaDoorWaR
import Derived.Test.YtocmnobcccjenaaDoorQuA
namespace Go.Proofs.YtocmnobcccjenaaDoor
open Go.RowKit

set_option maxRecDepth 100000

def sumF : List Fd → Nat
  | [] => 0
  | x :: r => x.1.length + sumF r
def farB (l : List Fd) : Bool := decide (70 < l.length) || (l.any fun x => decide (2100 < x.1.length)) || decide (12000 < sumF l)
theorem sumF_app (a b : List Fd) : sumF (a ++ b) = sumF a + sumF b := by
  induction a with
  | nil => simp [sumF]
  | cons x r ih => show x.1.length + sumF (r ++ b) = x.1.length + sumF r + sumF b; omega
theorem sumF_snoc (l : List Fd) (k : Nat) (h : k < l.length) : sumF (l.take (k + 1)) = sumF (l.take k) + l[k].1.length := by
  rw [List.take_succ_eq_append_getElem h, sumF_app]; rfl
def f21 (l : List Fd) : Bool := l.any fun x => decide (2100 < x.1.length)
theorem f21_snoc (l : List Fd) (k : Nat) (h : k < l.length) (h1 : f21 (l.take k) = false) (h2 : ¬ 2100 < l[k].1.length) : f21 (l.take (k + 1)) = false := by
  unfold f21 at *; rw [List.take_succ_eq_append_getElem h, List.any_append, h1]; simp; omega
theorem f21_yes (l : List Fd) (k : Nat) (h : k < l.length) (h2 : 2100 < l[k].1.length) : f21 l = true := by
  unfold f21; rw [List.any_eq_true]; exact ⟨l[k], List.getElem_mem h, by simpa using h2⟩
theorem sumF_le (l : List Fd) (h : f21 l = false) : sumF l ≤ 2100 * l.length := by
  induction l with
  | nil => simp [sumF]
  | cons x r ih =>
    unfold f21 at h
    rw [List.any_cons, Bool.or_eq_false_iff] at h
    have := ih h.2
    have h1 := h.1
    simp at h1
    show x.1.length + sumF r ≤ 2100 * (r.length + 1)
    omega

set_option maxHeartbeats 4000000 in
theorem far_any (v : Value) (l : List Fd) (w : World) (hv : FldB w.heap.size w v l) :
    Calls Tryd.prog 5 #[v] w fun e w' => e = .returned (.bool (farB l)) ∧ Below w.heap.size w w' := by
  obtain ⟨a, cap, rfl, hcap, hcell⟩ := hv
  by_cases hl : 70 < l.length
  · have HF : Hid (farB l = true) := by unfold Hid farB; rw [decide_eq_true hl]; rfl
    go_enter Tryd.func5, Tryd.ntmps5
    go_wp2
    go_ret
    exact ⟨by rw [HF.out]; rfl, Below.refl _ _⟩
  · go_enter Tryd.func5, Tryd.ntmps5
    go_wp2
    go_loopw [3, 4] (fun n i wr => ∃ k : Nat, k ≤ l.length ∧ i = .int .i64 k ∧ n = .int .i64 (sumF (l.take k)) ∧ Below w.heap.size w wr ∧ Hid (f21 (l.take k) = false)) (fun _ i _ => l.length - (intOf i).toNat)
    case atStart => exact ⟨0, by omega, rfl, rfl, Below.refl _ _, rfl⟩
    case round =>
      obtain ⟨k, hk, rfl, rfl, hbl, hq⟩ := hrel
      have hsz := hbl.size
      have hsm := sumF_le (l.take k) hq.out
      have htl : (l.take k).length ≤ 70 := by rw [List.length_take]; omega
      by_cases hlt : k < l.length
      · obtain ⟨b, off, rfl, hb, hc⟩ := hcell (by intro e; rw [e] at hlt; simp at hlt)
        obtain ⟨hc1, hc2⟩ := hc k hlt
        have hd1 : wr.cell? ⟨b, off + k * 2, none⟩ = some (.string ⟨l[k].1.toArray⟩) := (hbl.cell (p := ⟨b, off + k * 2, none⟩) hb).trans hc1
        have HS := Lib.hid (sumF_snoc l k hlt)
        have HN := Lib.hid (f21_snoc l k hlt hq.out)
        have HY := Lib.hid (f21_yes l k hlt)
        obtain ⟨z, hz⟩ : ∃ z, z = sumF (l.take k) := ⟨_, rfl⟩
        rw [← hz] at HS hsm ⊢
        have hz2 : z ≤ 147000 := by omega
        clear hcell hc hc1 hc2 hsm htl hz
        go_wp2
        · have HF : Hid (farB l = true) := by unfold Hid farB; rw [show (l.any fun x => decide (2100 < x.1.length)) = true from HY.out (by omega)]; simp
          go_ret
          exact ⟨by rw [HF.out]; rfl, hbl⟩
        · go_roundw
          case rel => exact ⟨k + 1, by omega, by go_num, by rw [HS.out]; go_num, hbl, HN.out (by omega)⟩
          case measure => simp [intOf]; omega
      · have hke : k = l.length := by omega
        subst hke
        have HF : Hid (farB l = decide (12000 < sumF l)) := by
          have h2 := hq.out
          rw [List.take_length] at h2
          unfold Hid farB
          rw [decide_eq_false hl, show (l.any fun x => decide (2100 < x.1.length)) = false from h2]; rfl
        rw [List.take_length] at hsm ⊢
        clear hcell hq
        go_wp2
        go_ret
        exact ⟨ret_bool (by rw [HF.out]; exact decide_eq_decide.2 (by omega)), hbl⟩
end Go.Proofs.YtocmnobcccjenaaDoor
