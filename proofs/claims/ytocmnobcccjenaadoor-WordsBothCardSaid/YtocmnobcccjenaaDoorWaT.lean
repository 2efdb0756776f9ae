/- Split as a plain contract; Same of the reference. -/
import Derived.Test.YtocmnobcccjenaaDoorWaS
import Derived.Deep.QuietTactic
import Derived.BigQuiet
import Derived.Laws.StructEq
namespace Go.Proofs.YtocmnobcccjenaaDoor
open Go.RowKit

theorem split_any (s : ByteArray) (w : World) (hw : Lay w) (hs : s.size ≤ 140737488351232) :
    Calls Tryd.prog 9 #[.string s] w fun e w' => ∃ v, e = .returned (.tuple #[v, .int .i64 (splE (byt s))]) ∧ Fls w' w.heap.size v (splV (byt s)) ∧ Below w.heap.size w w' :=
  callsIn_wide.1 (split_in 4 (Nat.le_refl _) s w hw hs)

theorem fields45 : (Tryd.prog.fieldsOf 30).toList.map (fun f => (decide (f.name ≠ "_"), f.type, f.offset)) = [(true, 9, 0), (true, 4, 1)] := by kernel_rfl
theorem eqF (W : World) (fs : List Field) (hf : fs.map (fun f => (decide (f.name ≠ "_"), f.type, f.offset)) = [(true, 9, 0), (true, 4, 1)]) (a b : ByteArray) (p q : Bool) :
    (Op.eqFields 9999 #[.string a, .bool p] #[.string b, .bool q] fs).run Tryd.prog W = .ok (a.toList == b.toList && p == q) W := by
  match fs, hf with
  | [], hf => simp at hf
  | [_], hf => simp at hf
  | _ :: _ :: _ :: _, hf => simp at hf
  | [f, g], hf =>
    simp only [List.map_cons, List.map_nil, List.cons.injEq, Prod.mk.injEq, and_true] at hf
    obtain ⟨⟨f1, f2, f3⟩, g1, g2, g3⟩ := hf
    have f1' := of_decide_eq_true f1
    have g1' := of_decide_eq_true g1
    simp only [Op.eqFields, if_pos f1', if_pos g1', f2, f3, g2, g3]
    by_cases h : (a.toList == b.toList) = true
    · by_cases h2 : (p == q) = true
      · simp [go_sem, Tryd.underlying9, Tryd.underlying4, h, h2]
      · simp [go_sem, Tryd.underlying9, Tryd.underlying4, h, h2]
    · simp [go_sem, Tryd.underlying9, Tryd.underlying4, h]
theorem neqF (W : World) (a b : ByteArray) (p q : Bool) : (binOp .neq 30 (.agg #[.string a, .bool p]) (.agg #[.string b, .bool q])).run Tryd.prog W = .ok (.bool (!(a.toList == b.toList && p == q))) W := by
  rw [run_neq_struct, run_equalIn_agg W 9999 30 _ _ (by kernel_rfl) (by kernel_rfl), eqF W _ fields45]
  rfl
theorem guardF (W : World) (x y : Operand) (xs ys : Array Value) : (eqGuard .neq 30 x y (.agg xs) (.agg ys)).run Tryd.prog W = .ok () W :=
  run_eqGuard_agg W .neq 30 x y xs ys (by kernel_rfl)

set_option maxHeartbeats 4000000 in
theorem same_any (v u : Value) (l m : List Fd) (w : World) (hv : FldB w.heap.size w v l) (hu : FldB w.heap.size w u m) (hln : l.length ≤ 1000000) (hmn : m.length ≤ 1000000) :
    Calls Tryd.prog 13 #[v, u] w fun e w' => e = .returned (.bool (decide (l = m))) ∧ Below w.heap.size w w' := by
  obtain ⟨a, cap, rfl, hcap, hcell⟩ := hv
  obtain ⟨a2, cap2, rfl, hcap2, hcell2⟩ := hu
  by_cases hlen : l.length = m.length
  · have hb : ((l.length : Int) != (m.length : Int)) = false := by simp [hlen]
    go_enter Tryd.func13, Tryd.ntmps13
    have Hlen := Lib.hid hlen; clear hlen
    go_wp2
    go_loopw [5] (fun i wr => ∃ k : Nat, k ≤ l.length ∧ i = .int .i64 k ∧ Below w.heap.size w wr ∧ Hid (l.take k = m.take k)) (fun i _ => l.length - (intOf i).toNat)
    case atStart => exact ⟨0, by omega, rfl, Below.refl _ _, rfl⟩
    case round =>
      obtain ⟨k, hk, rfl, hbl, hq⟩ := hrel
      have hsz := hbl.size
      by_cases hlt : k < l.length
      · have hlt2 : k < m.length := by have := Hlen.out; omega
        obtain ⟨b, off, rfl, hbb, hc⟩ := hcell (by intro e; rw [e] at hlt; simp at hlt)
        obtain ⟨b2, off2, rfl, hbb2, hc2⟩ := hcell2 (by intro e; rw [e] at hlt2; simp at hlt2)
        obtain ⟨x1, x2⟩ := hc k hlt
        obtain ⟨y1, y2⟩ := hc2 k hlt2
        have hd1 : wr.cell? ⟨b, off + k * 2, none⟩ = some (.string ⟨l[k].1.toArray⟩) := (hbl.cell (p := ⟨b, off + k * 2, none⟩) hbb).trans x1
        have hd2 : wr.cell? ⟨b, off + k * 2 + 1, none⟩ = some (.bool l[k].2) := (hbl.cell (p := ⟨b, off + k * 2 + 1, none⟩) hbb).trans x2
        have he1 : wr.cell? ⟨b2, off2 + k * 2, none⟩ = some (.string ⟨m[k].1.toArray⟩) := (hbl.cell (p := ⟨b2, off2 + k * 2, none⟩) hbb2).trans y1
        have he2 : wr.cell? ⟨b2, off2 + k * 2 + 1, none⟩ = some (.bool m[k].2) := (hbl.cell (p := ⟨b2, off2 + k * 2 + 1, none⟩) hbb2).trans y2
        have hi1 : (k : Int) < (l.length : Int) := by omega
        have hi2 : (k : Int) < (m.length : Int) := by omega
        clear hcell hcell2 hc hc2 x1 x2 y1 y2
        have hnq := neqF
        have hgq := guardF
        go_wp2_with fail
        go_quiet (fail)
        go_wp2
        · have h : (!l[k].fst == m[k].fst) = true ∨ (!l[k].snd == m[k].snd) = true := by assumption
          have hne : l ≠ m := by
            intro e; subst e; simp at h
          go_ret
          exact ⟨ret_bool (decide_eq_false hne).symm, below_drewN hbl _⟩
        · have h : (!l[k].fst == m[k].fst) = false ∧ (!l[k].snd == m[k].snd) = false := by assumption
          have he : l[k] = m[k] := by simp at h; exact Prod.ext h.1 h.2
          go_roundw
          case rel => exact ⟨k + 1, by omega, by go_num, below_drewN hbl _, by unfold Hid; rw [List.take_succ_eq_append_getElem hlt, List.take_succ_eq_append_getElem hlt2, hq.out, he]⟩
          case measure => simp [intOf]; try omega
      · have HL : Hid (l = m) := by
          unfold Hid; have := hq.out
          rw [List.take_of_length_le (by omega), List.take_of_length_le (by have := Hlen.out; omega)] at this; exact this
        clear hq hcell hcell2
        go_wp2
        go_ret
        exact ⟨ret_bool (decide_eq_true HL.out).symm, hbl⟩
  · have hb : ((l.length : Int) != (m.length : Int)) = true := by rw [bne_iff_ne]; omega
    have HE : Hid (decide (l = m) = false) := by unfold Hid; rw [decide_eq_false (fun e => hlen (by rw [e]))]
    clear hcell hcell2 hlen
    go_enter Tryd.func13, Tryd.ntmps13
    go_wp2
    go_ret
    exact ⟨ret_bool HE.out.symm, Below.refl _ _⟩
end Go.Proofs.YtocmnobcccjenaaDoor
