/- Starts. -/
import Derived.Test.YtomffjaeafcpdaaDoorRuN
namespace Go.Proofs.YtomffjaeafcpdaaDoor
open Go.RowKit Go.Shelf
attribute [local go_sem] Oper.semAt_some

theorem starts_results (tmps : Array Value) (W : World) (u : Value) (e : Int) (h2 : tmps.getD 2 undef = u) (h3 : tmps.getD 3 undef = .int .i64 e) :
    (results Tryd.f22 tmps).run Tryd.prog W = .ok (.tuple #[u, .int .i64 e]) W := by
  have h2' : tmps[2]?.getD undef = u := by simpa using h2
  have h3' : tmps[3]?.getD undef = .int .i64 e := by simpa using h3
  simp [results, Tryd.results22, go_sem, h2', h3']
def staV (s : List UInt8) : List Int := if chkE s = 0 then (sts s).map fun (z : Nat) => (z : Int) else []
def StI (vb : Value) (w : World) (pre : List (Nat × Nat)) (W : World) : Prop :=
  (∃ v, Boxed W (w.heap.size + 1) 40 v ∧ W.ownsRow w.heap.size 3 1 v (pre.length + 1) (.int .i64 0 :: pre.map fun p => .int .i64 (p.2 : Int)) ∧ True) ∧ (Boxed W (w.heap.size + 1 + 1) 22 vb ∧ Below w.heap.size w W)
theorem stI_own (v : Value) (w : World) (B : Nat) (h : w.heap.size ≤ B) : OwnFrom B (StI v w) :=
  OwnFrom.and (Own.from (holdsRow_own w.heap.size (w.heap.size + 1) 40 3 1 (fun (pre : List (Nat × Nat)) => pre.length + 1) (fun (pre : List (Nat × Nat)) => .int .i64 0 :: pre.map fun p => .int .i64 (p.2 : Int)) (fun _ _ => True)) _) (OwnFrom.and (Own.from (boxed_own _ _ _) _) (ownFrom_below (Nat.le_refl _) h))

set_option maxRecDepth 100000 in
set_option maxHeartbeats 4000000 in
theorem starts_in (n : Nat) (hn : 4 ≤ n) (v : Value) (s : List UInt8) (w : World) (hw : Lay w) (hv : RdB w.heap.size w v s) :
    CallsIn Fence.wide n Tryd.prog 22 #[v] w fun e w' => ∃ u, e = .returned (.tuple #[u, .int .i64 ((chkE s : Nat) : Int)]) ∧ Ins 3 w' w.heap.size u (staV s) ∧ Below w.heap.size w w' := by
  have h1 : 1 ≤ n := by omega
  have hv0 := hv
  obtain ⟨va, cap, rfl, hcap, hc2, hcells⟩ := hv
  clear hcells
  have HC := Lib.hid (check_any (.slice va s.length cap) s w hw hv0)
  obtain ⟨ca, hca⟩ : ∃ c, chkA s = c := ⟨_, rfl⟩
  rw [hca] at HC
  clear hca
  by_cases hok : chkE s = 0
  · rw [hok] at HC
    have hlen := chkE_len s hok
    have HR := Lib.hid (show staV s = (sts s).map fun (z : Nat) => (z : Int) by unfold staV; rw [if_pos hok])
    have HO := Lib.hid hok
    clear hok
    obtain ⟨i0, hi, hz0, hz1, hz2⟩ := info_parts infoN
    refine callsIn_of_wp_marks Tryd.func22 rfl trivial ?_ rfl
    simp only [Tryd.ntmps22, List.size_toArray, List.length_cons, List.length_nil, Nat.reduceAdd, Nat.reduceSub, Array.replicate_succ, Array.replicate_zero, List.push_toArray, List.append_toArray, List.nil_append, List.cons_append]
    gi_wp2_with (first
      | (refine ⟨trivial, ?_⟩; gi_at_call 13; refine (callsIn_wide.2 HC.out).mono ?_; rintro e w1 ⟨rfl, hb1⟩)
      | (refine ⟨trivial, ?_⟩; gi_at_call 38; refine (runesOf_in (n - 1) _ _ _ _).mono ?_; rintro e w' ⟨rfl, rfl⟩))
    have hs1 := hb1.size
    have hL1 := hw.next hb1
    have hv1 := hv0.next hb1
    have bL := (Boxed.new (w1.alloc (.cells #[.int .i64 0] 3)) 40 (.slice (some ⟨w1.heap.size, 0, none⟩) 1 1)).alloc (.cells #[.slice va s.length cap] 22)
    have bV := Boxed.new ((w1.alloc (.cells #[.int .i64 0] 3)).alloc (.cells #[.slice (some ⟨w1.heap.size, 0, none⟩) 1 1] 40)) 22 (.slice va s.length cap)
    have hrow0 : (w1.alloc (.cells #[.int .i64 0] 3)).ownsRow w1.heap.size 3 1 (.slice (some ⟨w1.heap.size, 0, none⟩) 1 1) 1 [.int .i64 0] := World.ownsRow_lit w1 #[.int .i64 0] 1 (Nat.le_refl _) (by decide) rfl
    rw [World.size_alloc] at bL
    rw [World.size_alloc, World.size_alloc] at bV
    have hrow1 := (hrow0.alloc (.cells #[.slice (some ⟨w1.heap.size, 0, none⟩) 1 1] 40)).alloc (.cells #[.slice va s.length cap] 22)
    have hB0 : Below w1.heap.size w1 (((w1.alloc (.cells #[.int .i64 0] 3)).alloc (.cells #[.slice (some ⟨w1.heap.size, 0, none⟩) 1 1] 40)).alloc (.cells #[.slice va s.length cap] 22)) := (((Below.refl _ w1).alloc (Nat.le_refl _) _).alloc (by simp) _).alloc (by simp; omega) _
    obtain ⟨W0, hW0⟩ : ∃ W0, (((w1.alloc (.cells #[.int .i64 0] 3)).alloc (.cells #[.slice (some ⟨w1.heap.size, 0, none⟩) 1 1] 40)).alloc (.cells #[.slice va s.length cap] 22)) = W0 := ⟨_, rfl⟩
    have hsz : W0.heap.size = w1.heap.size + 3 := by rw [← hW0]; simp
    rw [hW0] at bV bL hB0 hrow1 ⊢
    have hL0 := hL1.next hB0
    refine wpIn_rangeFunc_ownF rfl h1 (gf := 46) (lb := #[.pointer (some ⟨w1.heap.size + 1 + 1, 0, none⟩)]) rfl trivial (enters_of Tryd.func46 (by kernel_rfl) rfl)
      (runes_stops (n - 1) (w1.heap.size + 1 + 1) w1.heap.size (by omega) hL1.size _ s (by omega) W0 (by omega) hL0 (hv1.below hB0) (by omega) bV.cell) kpB_t (kpB_b (by omega) (by omega)) (Below.refl _ _) (fun _ => rfl)
      (StI (.slice va s.length cap) w1) (fun _ _ _ => False) (stI_own _ w1 _ (by omega)) (fun _ _ _ _ _ hs _ _ => hs) ⟨⟨_, bL, hrow1, trivial⟩, bV, hB0⟩
      (fun x => { tmps := #[.slice va s.length cap, undef, .slice none 0 0, .int .i64 0, .int .i64 (ca : Int), .int .i64 0, .pointer (some ⟨w1.heap.size + 1, 0, none⟩), undef, .int .i64 (x.2 : Int), .tuple #[.int .i64 (ca : Int), .int .i64 0], .slice va s.length cap, .tuple #[.int .i64 (ca : Int), .int .i64 0], .int .i64 (ca : Int), .int .i64 0, .int .i64 0, .bool false, undef, .slice (some ⟨w1.heap.size, 0, none⟩) 1 1, .slice va s.length cap, .func (.func 46) #[] #[.pointer (some ⟨w1.heap.size + 1 + 1, 0, none⟩)], .int .i64 (x.1 : Int), .int .i64 (x.2 : Int), undef, undef, undef, undef, undef], defers := [] }) ?assign ?body ?done ?stop
    case assign =>
      intro l x W K hK
      dsimp only [encP]
      gi_wp2
      exact hK
    case body =>
      rintro l pre x W ⟨⟨u, hu, hrow, _⟩, hV, hB⟩ hlt
      have hWs := hB.size
      have cL := hu.cell
      have fL := hu.frozen
      have hll : pre.length < 8000 := by have := rns_len s; omega
      gi_wp2_with (gi_at_builtin; refine wpListIn_append_own _ rfl _ _ 40 rfl w1.heap.size 3 i0 (.int .i64 0) 1 8 Tryd.underlying40 hi hz0 hz1 hz2 rfl (by decide) _ _ _ rfl (hrow.alloc _) ⟨W.heap.size, 0, none⟩ 1 1 [.int .i64 (x.2 : Int)] rfl rfl ?c1 ?c2 ?c3 ?c4 ?c5 ?_; rotate_left 5; intro v' w2 hown' hgrow _; obtain ⟨g', cap', rfl⟩ := ownsRow_succ hown'; obtain ⟨hv1, hv2, hr2, hk2, hb2⟩ := hu.appended (by decide) hrow hB.size (Nat.le_succ _) hown' hgrow; have hc1 := hv1.cell; have hf1 := hv1.frozen)
      case c1 => exact cells_new' _ _ _ _ _ rfl
      case c2 => simp [Value.oneCell']
      case c3 => unfold maxLen; omega
      case c4 => omega
      case c5 => simp; omega
      have hV1 := ((hV.alloc (.cells #[.int .i64 (x.2 : Int)] 3)).kept hgrow (hV.not_row (by decide) hrow)).other (B' := w1.heap.size + 1) (by omega) (.slice (some ⟨g', 0, none⟩) (pre.length + 1 + 1) cap')
      refine ⟨hk2, ⟨hb2, ?_⟩, ⟨_, hv2, ?_, trivial⟩, hV1, hB.trans hb2⟩
      · rw [hV1.cell, hV.cell]
      · rw [List.map_append, List.length_append]; exact hr2
    case done =>
      rintro D ys W hD rfl ⟨⟨u, hu, hrow, _⟩, hV, hB⟩ hK
      obtain ⟨ua, un, uc, rfl⟩ := own_slice hrow
      have hWs := hB.size
      have cL := hu.cell
      gi_wp2
      refine ⟨by simp, .inl ⟨_, _, rfl, run_takeDeferred hK, ?_⟩⟩
      refine ⟨_, starts_results _ _ _ _ rfl rfl, _, by rw [HO.out]; rfl, ?_, (hb1.trans (hB.mono hs1)).trans (belowK_b (w := w) (Nat.le_refl _) _ D _ _ (by omega) hK rfl rfl)⟩
      unfold Ins
      have := ownsRow_putObj (own_mono hrow hs1) (.deferred none) hK rfl
      rw [HR.out]
      simpa [sts, Function.comp_def] using this
    case stop =>
      rintro D c pre W _ _ h _
      exact h.elim
  · have HR := Lib.hid (show staV s = [] by unfold staV; rw [if_neg hok])
    obtain ⟨q, hq⟩ : ∃ q, chkE s = q := ⟨_, rfl⟩
    rw [hq] at HC hok ⊢
    have hne : ((q : Int) != 0) = true := by rw [bne_iff_ne]; omega
    clear hq
    refine callsIn_of_wp_marks Tryd.func22 rfl trivial ?_ rfl
    simp only [Tryd.ntmps22, List.size_toArray, List.length_cons, List.length_nil, Nat.reduceAdd, Nat.reduceSub, Array.replicate_succ, Array.replicate_zero, List.push_toArray, List.append_toArray, List.nil_append, List.cons_append]
    gi_wp2_with (refine ⟨trivial, ?_⟩; gi_at_call 13; refine (callsIn_wide.2 HC.out).mono ?_; rintro e w1 ⟨rfl, hb1⟩)
    refine ⟨_, starts_results _ _ _ _ rfl rfl, _, rfl, ?_, hb1⟩
    rw [HR.out]
    exact World.ownsRow_nil _ _ _ _

theorem starts_any (v : Value) (s : List UInt8) (w : World) (hw : Lay w) (hv : RdB w.heap.size w v s) :
    Calls Tryd.prog 22 #[v] w fun e w' => ∃ u, e = .returned (.tuple #[u, .int .i64 ((chkE s : Nat) : Int)]) ∧ Ins 3 w' w.heap.size u (staV s) ∧ Below w.heap.size w w' :=
  callsIn_wide.1 (starts_in 4 (Nat.le_refl _) v s w hw hv)
end Go.Proofs.YtomffjaeafcpdaaDoor
