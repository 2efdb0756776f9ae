/- Check. -/
import Derived.Test.YtomffjaeafcpdaaDoorRuJ
import Derived.Laws.ResultCell
namespace Go.Proofs.YtomffjaeafcpdaaDoor
open Go.RowKit Go.Shelf
attribute [local go_sem] Oper.semAt_some

theorem boxed_below {W W' : World} {B : Nat} {t : TypeId} {v : Value} (h : Boxed W B t v) (hb : Below W.heap.size W W') : Boxed W' B t v :=
  (hb.block B h.lt).trans h
theorem boxed_put {W : World} {B : Nat} {t : TypeId} {v : Value} (h : Boxed W B t v) (D : Nat) (hK : W.heap[D]? = some (.deferred (some []))) : Boxed (W.putObj D (.deferred none)) B t v := by
  have hne : B ≠ D := by intro e; subst e; rw [show W.heap[B]? = _ from h] at hK; cases hK
  unfold Boxed; rw [World.putObj_heap_other hne]; exact h
theorem check_results (tmps : Array Value) (W : World) (b1 : Nat) (a e : Int) (t1 : TypeId) (h2 : tmps.getD 2 undef = .pointer (some ⟨b1, 0, none⟩)) (h3 : tmps.getD 3 undef = .int .i64 e)
    (hb1 : Boxed W b1 t1 (.int .i64 a)) : (results Tryd.f13 tmps).run Tryd.prog W = .ok (.tuple #[.int .i64 a, .int .i64 e]) W := by
  have c1 := hb1.cell
  have h2' : tmps[2]?.getD undef = .pointer (some ⟨b1, 0, none⟩) := by simpa using h2
  have h3' : tmps[3]?.getD undef = .int .i64 e := by simpa using h3
  simp [results, Tryd.results13, go_sem, h2', h3', c1]

/-- Where the last rune ends that has come. -/
def lastE (pre : List (Nat × Nat)) : Nat := (pre.map (·.2)).getLastD 0
theorem lastE_snoc (pre : List (Nat × Nat)) (x : Nat × Nat) : lastE (pre ++ [x]) = x.2 := by
  unfold lastE; rw [List.map_append, List.map_cons, List.map_nil]
  generalize pre.map (·.2) = l
  rw [List.getLastD_eq_getLast?, List.getLast?_append]; rfl
theorem lastE_rns (s : List UInt8) : lastE (rns s) = endA s := rnF_last _ _ _
/-- Between two rounds. -/
def ChI (v : Value) (w : World) (pre : List (Nat × Nat)) (W : World) : Prop :=
  Boxed W w.heap.size 3 (.int .i64 ((lastE pre : Nat) : Int)) ∧ (Boxed W (w.heap.size + 1) 22 v ∧ Below w.heap.size w W)
theorem chI_own (v : Value) (w : World) (B : Nat) (h : w.heap.size ≤ B) : OwnFrom B (ChI v w) :=
  OwnFrom.and (Own.from (boxed_own w.heap.size 3 (fun (pre : List (Nat × Nat)) => .int .i64 ((lastE pre : Nat) : Int))) _) (OwnFrom.and (Own.from (boxed_own _ _ _) _) (ownFrom_below (Nat.le_refl _) h))

set_option maxRecDepth 100000 in
set_option maxHeartbeats 4000000 in
theorem check_in (n : Nat) (hn : 4 ≤ n) (v : Value) (s : List UInt8) (w : World) (hw : Lay w) (hv : RdB w.heap.size w v s) :
    CallsIn Fence.wide n Tryd.prog 13 #[v] w fun e w' => e = .returned (.tuple #[.int .i64 ((chkA s : Nat) : Int), .int .i64 ((chkE s : Nat) : Int)]) ∧ Below w.heap.size w w' := by
  have h1 : 1 ≤ n := by omega
  have hv0 := hv
  obtain ⟨va, cap, rfl, hcap, hc2, hcells⟩ := hv
  clear hcells
  by_cases hlong : s.length ≤ 8000
  · have hli : ¬ (8000 : Int) < (s.length : Int) := by omega
    have bA := Boxed.new w 3 (.int .i64 0)
    have bV := Boxed.new (w.alloc (.cells #[.int .i64 0] 3)) 22 (.slice va s.length cap)
    have bA' := bA.alloc (.cells #[.slice va s.length cap] 22)
    rw [World.size_alloc] at bV
    have hB0 : Below w.heap.size w ((w.alloc (.cells #[.int .i64 0] 3)).alloc (.cells #[.slice va s.length cap] 22)) := ((Below.refl _ w).alloc (Nat.le_refl _) _).alloc (by simp) _
    obtain ⟨W0, hW0⟩ : ∃ W0, ((w.alloc (.cells #[.int .i64 0] 3)).alloc (.cells #[.slice va s.length cap] 22)) = W0 := ⟨_, rfl⟩
    have hsz : W0.heap.size = w.heap.size + 2 := by rw [← hW0]; simp
    rw [hW0] at bV bA' hB0
    have HB := Lib.hid (And.intro bA' (And.intro bV hB0))
    have HS := Lib.hid hsz
    have HW := Lib.hid hW0
    clear bA bV bA' hB0 hsz hW0
    refine callsIn_of_wp_marks Tryd.func13 rfl trivial ?_ rfl
    simp only [Tryd.ntmps13, List.size_toArray, List.length_cons, List.length_nil, Nat.reduceAdd, Nat.reduceSub, Array.replicate_succ, Array.replicate_zero, List.push_toArray, List.append_toArray, List.nil_append, List.cons_append]
    gi_wp2_with (refine ⟨trivial, ?_⟩; gi_at_call 38; refine (runesOf_in (n - 1) _ _ _ _).mono ?_; rintro e w' ⟨rfl, rfl⟩)
    rw [HW.out]
    obtain ⟨bA, bV, hB0⟩ := HB.out
    have hsz := HS.out
    have hL0 := hw.next hB0
    refine wpIn_rangeFunc_ownF rfl h1 (gf := 46) (lb := #[.pointer (some ⟨w.heap.size + 1, 0, none⟩)]) rfl trivial (enters_of Tryd.func46 (by kernel_rfl) rfl)
      (runes_stops (n - 1) (w.heap.size + 1) w.heap.size (by omega) hw.size _ s (by omega) W0 (by omega) hL0 (hv0.below hB0) (by omega) bV.cell) kpB_t (kpB_b (by omega) (by omega)) (Below.refl _ _) (fun _ => rfl)
      (ChI (.slice va s.length cap) w) (fun _ _ _ => False) (chI_own _ w _ (by omega)) (fun _ _ _ _ _ hs _ _ => hs) ⟨bA, bV, hB0⟩
      (fun x => { tmps := #[.slice va s.length cap, undef, .pointer (some ⟨w.heap.size, 0, none⟩), .int .i64 0, undef, .int .i64 (x.2 : Int), .slice va s.length cap, .int .i64 (s.length : Int), .bool false, .slice va s.length cap, .func (.func 46) #[] #[.pointer (some ⟨w.heap.size + 1, 0, none⟩)], .int .i64 (x.1 : Int), .int .i64 (x.2 : Int), undef, undef, undef, undef, undef, undef, undef, undef, undef, undef, undef, undef, undef, undef], defers := [] }) ?assign ?body ?done ?stop
    case assign =>
      intro l x W K hK
      dsimp only [encP]
      gi_wp2
      exact hK
    case body =>
      rintro l pre x W ⟨hA, hV, hB⟩ _
      have cA := hA.cell
      have fA := hA.frozen
      have hbs : Below w.heap.size W (W.setCell ⟨w.heap.size, 0, none⟩ (.int .i64 (x.2 : Int))) := (Below.refl _ W).setCell (p := ⟨w.heap.size, 0, none⟩) (Nat.le_refl _) _
      gi_wp2
      refine ⟨KeepsOthers.setCell _ _ _, ⟨hbs, ?_⟩, ?_, hV.other (by omega) _, hB.setCell (Nat.le_refl _) _⟩
      · exact World.cell?_setCell_other _ _ _ _ (by simp)
      · rw [lastE_snoc]; exact hA.set _
    case done =>
      rintro D ys W hD rfl ⟨hA, hV, hB⟩ hK
      have hWs := hB.size
      have cA := hA.cell
      have fA := hA.frozen
      rw [lastE_rns] at hA cA
      have hLW := hw.next hB
      have hvW := hv0.next hB
      have hcA : chkA s = endA s := by unfold chkA; rw [if_neg (by omega)]
      by_cases hlt : endA s < s.length
      · have hlt2 : decide (endA s < s.length) = true := decide_eq_true hlt
        have HD := Lib.hid (decode_any s (.slice va s.length cap) ((endA s : Nat) : Int) W hLW hvW)
        have hE : chkE s = (dec (s.drop (endA s))).2.2 := by unfold chkE; rw [if_neg (by omega), if_pos hlt]
        have hki : decI s ((endA s : Nat) : Int) = dec (s.drop (endA s)) := by unfold decI; rw [if_neg (by omega)]; rfl
        obtain ⟨r, hr⟩ : ∃ r, (dec (s.drop (endA s))).1 = r := ⟨_, rfl⟩
        obtain ⟨d, hdd⟩ : ∃ d, (dec (s.drop (endA s))).2.1 = d := ⟨_, rfl⟩
        obtain ⟨q, hq⟩ : ∃ q, (dec (s.drop (endA s))).2.2 = q := ⟨_, rfl⟩
        obtain ⟨a, ha⟩ : ∃ a, endA s = a := ⟨_, rfl⟩
        rw [hq] at hE
        have HR := Lib.hid (And.intro hcA hE)
        have HD' := Lib.hid (show Calls Tryd.prog 7 #[.slice va s.length cap, .int .i64 ((endA s : Nat) : Int)] W fun e w' => e = .returned (.tuple #[.int .i64 (r : Int), .int .i64 (d : Int), .int .i64 (q : Int)]) ∧ Below W.heap.size W w' from HD.out.mono fun e w' h => ⟨by rw [h.1, hki]; unfold tup3; rw [hr, hdd, hq], h.2⟩)
        rw [ha] at HR HD' hA cA hlt2 hlt
        clear HD hcA hE hki hr hdd hq ha
        gi_wp2_with (refine ⟨trivial, ?_⟩; gi_at_call 7; refine (callsIn_wide.2 HD'.out).mono ?_; rintro e w2 ⟨rfl, hb2⟩; have bA := boxed_below hA hb2; have cA2 := bA.cell; have fA2 := bA.frozen; have hs2 := hb2.size)
        have hK2 : w2.heap[D]? = some (.deferred (some [])) := (hb2.block D (Array.getElem?_eq_some_iff.1 hK).1).trans hK
        have hD2 : (w2.setCell ⟨w.heap.size, 0, none⟩ (.int .i64 (a : Int))).heap[D]? = some (.deferred (some [])) := by
          rw [Below.heap_setCell _ _ _ _ (by simp; omega)]; exact hK2
        have hBf : Below w.heap.size w (w2.setCell ⟨w.heap.size, 0, none⟩ (.int .i64 (a : Int))) := (hB.trans (hb2.mono hWs)).setCell (Nat.le_refl _) _
        refine ⟨by simp, .inl ⟨_, _, rfl, run_takeDeferred hD2, ?_⟩⟩
        exact ⟨_, check_results _ _ w.heap.size _ _ _ rfl rfl (boxed_put (bA.set _) D hD2), by rw [HR.out.1, HR.out.2], hBf.trans (belowK_b (w := w) (Nat.le_refl _) _ D _ _ (by omega) hD2 rfl rfl)⟩
      · have hlt2 : decide (endA s < s.length) = false := decide_eq_false hlt
        have hE : chkE s = 0 := by unfold chkE; rw [if_neg (by omega), if_neg hlt]
        obtain ⟨a, ha⟩ : ∃ a, endA s = a := ⟨_, rfl⟩
        have HR := Lib.hid (And.intro hcA hE)
        rw [ha] at HR hA cA hlt2 hlt
        clear hcA hE ha
        gi_wp2
        have hD2 : (W.setCell ⟨w.heap.size, 0, none⟩ (.int .i64 (a : Int))).heap[D]? = some (.deferred (some [])) := by
          rw [Below.heap_setCell _ _ _ _ (by simp; omega)]; exact hK
        have hBf : Below w.heap.size w (W.setCell ⟨w.heap.size, 0, none⟩ (.int .i64 (a : Int))) := hB.setCell (Nat.le_refl _) _
        refine ⟨by simp, .inl ⟨_, _, rfl, run_takeDeferred hD2, ?_⟩⟩
        exact ⟨_, check_results _ _ w.heap.size _ _ _ rfl rfl (boxed_put (hA.set _) D hD2), by rw [HR.out.1, HR.out.2]; rfl, hBf.trans (belowK_b (w := w) (Nat.le_refl _) _ D _ _ (by omega) hD2 rfl rfl)⟩
    case stop =>
      rintro D c pre W _ _ h _
      exact h.elim
  · have hli : (8000 : Int) < (s.length : Int) := by omega
    have HR := Lib.hid (show chkA s = 0 ∧ chkE s = 3 from ⟨by unfold chkA; rw [if_pos (by omega)], by unfold chkE; rw [if_pos (by omega)]⟩)
    have bA := Boxed.new w 3 (.int .i64 0)
    refine callsIn_of_wp_marks Tryd.func13 rfl trivial ?_ rfl
    simp only [Tryd.ntmps13, List.size_toArray, List.length_cons, List.length_nil, Nat.reduceAdd, Nat.reduceSub, Array.replicate_succ, Array.replicate_zero, List.push_toArray, List.append_toArray, List.nil_append, List.cons_append]
    gi_wp2
    exact ⟨_, check_results _ _ w.heap.size _ _ _ rfl rfl bA, by rw [HR.out.1, HR.out.2]; rfl, (Below.refl _ w).alloc (Nat.le_refl _) _⟩

theorem check_any (v : Value) (s : List UInt8) (w : World) (hw : Lay w) (hv : RdB w.heap.size w v s) :
    Calls Tryd.prog 13 #[v] w fun e w' => e = .returned (.tuple #[.int .i64 ((chkA s : Nat) : Int), .int .i64 ((chkE s : Nat) : Int)]) ∧ Below w.heap.size w w' :=
  callsIn_wide.1 (check_in 4 (Nat.le_refl _) v s w hw hv)
end Go.Proofs.YtomffjaeafcpdaaDoor
