/- Back, On. -/
import Derived.Test.YtomffjaeafcpdaaDoorRuN
namespace Go.Proofs.YtomffjaeafcpdaaDoor
open Go.RowKit Go.Shelf
attribute [local go_sem] Oper.semAt_some

theorem backF_all (n : Nat) : ∀ (es : List Nat) (c : Nat), (∀ e ∈ es, e ≤ n) → backF n c es = es.getLastD c
  | [], c, _ => by simp [backF]
  | e :: r, c, h => by
    have := h e (by simp)
    unfold backF
    rw [if_neg (by omega), List.getLastD_cons]
    exact backF_all n r e (fun x hx => h x (by simp [hx]))
theorem backF_cut (n : Nat) : ∀ (es : List Nat) (c e : Nat) (r : List Nat), (∀ e ∈ es, e ≤ n) → n < e → backF n c (es ++ e :: r) = es.getLastD c
  | [], c, e, r, _, he => by simp [backF, he]
  | x :: es, c, e, r, h, he => by
    have := h x (by simp)
    rw [List.cons_append]
    unfold backF
    rw [if_neg (by omega), List.getLastD_cons]
    exact backF_cut n es x e r (fun y hy => h y (by simp [hy])) he

def bakE (s : List UInt8) (k : Int) : Nat := if chkE s = 0 then (if k < 0 ∨ (s.length : Int) < k then 7 else 0) else chkE s
def bakV (s : List UInt8) (k : Int) : Nat := if bakE s k = 0 then backV s k.toNat else 0

theorem back_results (tmps : Array Value) (W : World) (u e : Int) (h2 : tmps.getD 4 undef = .int .i64 u) (h3 : tmps.getD 5 undef = .int .i64 e) :
    (results Tryd.f26 tmps).run Tryd.prog W = .ok (.tuple #[.int .i64 u, .int .i64 e]) W := by
  have h2' : tmps[4]?.getD undef = .int .i64 u := by simpa using h2
  have h3' : tmps[5]?.getD undef = .int .i64 e := by simpa using h3
  simp [results, Tryd.results26, go_sem, h2', h3']

/-- Between two rounds. -/
def BkI (vb : Value) (n B : Nat) (w : World) (pre : List (Nat × Nat)) (W : World) : Prop :=
  (∀ p ∈ pre, p.2 ≤ n) ∧ (Boxed W w.heap.size 3 (.int .i64 ((lastE pre : Nat) : Int)) ∧ (Boxed W B 3 (.int .i64 (n : Int)) ∧ (Boxed W (w.heap.size + 1) 22 vb ∧ Below w.heap.size w W)))
/-- A round has left the loop. -/
def BkX (n : Nat) (w : World) (c : Code) (pre : List (Nat × Nat)) (W : World) : Prop :=
  (c = Code.exit 0 ∧ ∃ q x, pre = q ++ [x] ∧ (∀ p ∈ q, p.2 ≤ n) ∧ n < x.2 ∧ Boxed W w.heap.size 3 (.int .i64 ((lastE q : Nat) : Int))) ∧ Below w.heap.size w W
theorem bkI_own (v : Value) (n B0 : Nat) (w : World) (B : Nat) (h : w.heap.size ≤ B) : OwnFrom B (BkI v n B0 w) :=
  OwnFrom.and (ownFrom_pure _ _) (OwnFrom.and (Own.from (boxed_own w.heap.size 3 (fun (pre : List (Nat × Nat)) => .int .i64 ((lastE pre : Nat) : Int))) _) (OwnFrom.and (Own.from (boxed_own _ _ _) _) (OwnFrom.and (Own.from (boxed_own _ _ _) _) (ownFrom_below (Nat.le_refl _) h))))
theorem bkX_own (n : Nat) (w : World) (c : Code) (B : Nat) (h : w.heap.size ≤ B) : OwnFrom B (BkX n w c) := by
  rintro pre X Y row ⟨⟨hc, q, x, hq, ha, hx, hS⟩, hb⟩ hg hr
  exact ⟨⟨hc, q, x, hq, ha, hx, boxed_own _ _ (fun (_ : Unit) => _) () X Y row hS hg (fun r e => (hr r e).2)⟩, ownFrom_below (Nat.le_refl _) h () X Y row hb hg hr⟩

set_option maxRecDepth 100000 in
set_option maxHeartbeats 4000000 in
theorem back_ok_in (n : Nat) (hn : 4 ≤ n) (v : Value) (s : List UInt8) (k : Nat) (w : World) (hw : Lay w) (hv : RdB w.heap.size w v s) (hok : chkE s = 0) (hk : k ≤ s.length) :
    CallsIn Fence.wide n Tryd.prog 26 #[v, .int .i64 (k : Int)] w fun e w' => e = .returned (.tuple #[.int .i64 ((backV s k : Nat) : Int), .int .i64 0]) ∧ Below w.heap.size w w' := by
  have h1 : 1 ≤ n := by omega
  have hlen := chkE_len s hok
  have hv0 := hv
  obtain ⟨va, cap, rfl, hcap, hc2, hcells⟩ := hv
  clear hcells
  have d0 : decide ((k : Int) < 0) = false := decide_eq_false (by omega)
  have q2 : ¬ (s.length : Int) < (k : Int) := by omega
  have bN := Boxed.new w 3 (.int .i64 (k : Int))
  have hBN : Below w.heap.size w (w.alloc (.cells #[.int .i64 (k : Int)] 3)) := (Below.refl _ w).alloc (Nat.le_refl _) _
  have hvN := hv0.next hBN
  have hwN := hw.next hBN
  have HC := Lib.hid (check_any (.slice va s.length cap) s _ hwN hvN)
  obtain ⟨ca, hca⟩ : ∃ c, chkA s = c := ⟨_, rfl⟩
  rw [hca, hok] at HC
  have HO := Lib.hid hok
  clear hca hok
  refine callsIn_of_wp_marks Tryd.func26 rfl trivial ?_ rfl
  simp only [Tryd.ntmps26, List.size_toArray, List.length_cons, List.length_nil, Nat.reduceAdd, Nat.reduceSub, Array.replicate_succ, Array.replicate_zero, List.push_toArray, List.append_toArray, List.nil_append, List.cons_append]
  gi_wp2_with (first
    | (refine ⟨trivial, ?_⟩; gi_at_call 13; refine (callsIn_wide.2 HC.out).mono ?_; rintro e w1 ⟨rfl, hb1⟩; have bN1 := boxed_below bN hb1; have cN1 := bN1.cell)
    | (refine ⟨trivial, ?_⟩; gi_at_call 38; refine (runesOf_in (n - 1) _ _ _ _).mono ?_; rintro e w' ⟨rfl, rfl⟩))
  have hs1 := hb1.size
  have hL1 := hwN.next hb1
  have hv1 := hvN.next hb1
  have hsN : w.heap.size + 1 ≤ w1.heap.size := by have := hs1; simpa using this
  have hbw : Below w.heap.size w w1 := hBN.trans (hb1.mono hBN.size)
  have bS := (Boxed.new w1 3 (.int .i64 0)).alloc (.cells #[.slice va s.length cap] 22)
  have bV := Boxed.new (w1.alloc (.cells #[.int .i64 0] 3)) 22 (.slice va s.length cap)
  have bN2 := (bN1.alloc (.cells #[.int .i64 0] 3)).alloc (.cells #[.slice va s.length cap] 22)
  rw [World.size_alloc] at bV
  have hB0 : Below w1.heap.size w1 ((w1.alloc (.cells #[.int .i64 0] 3)).alloc (.cells #[.slice va s.length cap] 22)) := ((Below.refl _ w1).alloc (Nat.le_refl _) _).alloc (by simp) _
  obtain ⟨W0, hW0⟩ : ∃ W0, ((w1.alloc (.cells #[.int .i64 0] 3)).alloc (.cells #[.slice va s.length cap] 22)) = W0 := ⟨_, rfl⟩
  have hsz : W0.heap.size = w1.heap.size + 2 := by rw [← hW0]; simp
  rw [hW0] at bV bS bN2 hB0 ⊢
  have hL0 := hL1.next hB0
  clear cN1
  refine wpIn_rangeFunc_ownF rfl h1 (gf := 46) (lb := #[.pointer (some ⟨w1.heap.size + 1, 0, none⟩)]) rfl trivial (enters_of Tryd.func46 (by kernel_rfl) rfl)
    (runes_stops (n - 1) (w1.heap.size + 1) w1.heap.size (by omega) hL1.size _ s (by omega) W0 (by omega) hL0 (hv1.below hB0) (by omega) bV.cell) kpB_t (kpB_b (by omega) (by omega)) (Below.refl _ _) (fun _ => rfl)
    (BkI (.slice va s.length cap) k w.heap.size w1) (BkX k w1) (bkI_own _ _ _ w1 _ (by omega)) (fun c => bkX_own _ w1 c _ (by omega)) ⟨by simp, bS, bN2, bV, hB0⟩
    (fun x => { tmps := #[.slice va s.length cap, .int .i64 (k : Int), undef, .pointer (some ⟨w.heap.size, 0, none⟩), .int .i64 0, .int .i64 0, .int .i64 (ca : Int), .int .i64 0, .pointer (some ⟨w1.heap.size, 0, none⟩), undef, .int .i64 (x.2 : Int), .tuple #[.int .i64 (ca : Int), .int .i64 0], .slice va s.length cap, .tuple #[.int .i64 (ca : Int), .int .i64 0], .int .i64 (ca : Int), .int .i64 0, .int .i64 0, .bool false, undef, .int .i64 (k : Int), .bool false, .bool false, .int .i64 (k : Int), .slice va s.length cap, .int .i64 (s.length : Int), .bool false, .bool false, .slice va s.length cap, .func (.func 46) #[] #[.pointer (some ⟨w1.heap.size + 1, 0, none⟩)], .int .i64 (x.1 : Int), .int .i64 (x.2 : Int), undef, undef, undef, undef, undef], defers := [] }) ?assign ?body ?done ?stop
  case assign =>
    intro l x W K hK
    dsimp only [encP]
    gi_wp2
    exact hK
  case body =>
    rintro l pre x W ⟨hall, hS, hN, hV, hB⟩ _
    have cS := hS.cell
    have fS := hS.frozen
    have cN := hN.cell
    by_cases hx : k < x.2
    · have hx2 : decide (k < x.2) = true := decide_eq_true hx
      have HX := Lib.hid hx
      have HA := Lib.hid hall
      clear hx hall
      gi_wp2
      exact ⟨KeepsOthers.refl _, ⟨rfl, pre, x, rfl, HA.out, HX.out, hS⟩, hB⟩
    · have hx2 : decide (k < x.2) = false := decide_eq_false hx
      have HX := Lib.hid hx
      have HA := Lib.hid hall
      have hbs : Below w1.heap.size W (W.setCell ⟨w1.heap.size, 0, none⟩ (.int .i64 (x.2 : Int))) := (Below.refl _ W).setCell (p := ⟨w1.heap.size, 0, none⟩) (Nat.le_refl _) _
      clear hx hall
      gi_wp2
      refine ⟨KeepsOthers.setCell _ _ _, ⟨hbs, ?_⟩, ?_, ?_, hN.other (by omega) _, hV.other (by omega) _, hB.setCell (Nat.le_refl _) _⟩
      · exact World.cell?_setCell_other _ _ _ _ (by simp)
      · intro p hp
        have hx := HX.out
        rcases List.mem_append.1 hp with hp | hp
        · exact HA.out p hp
        · simp at hp; subst hp; omega
      · rw [lastE_snoc]; exact hS.set _
  case done =>
    rintro D ys W hD rfl ⟨hall, hS, hN, hV, hB⟩ hK
    have hWs := hB.size
    have cS := hS.cell
    have HE : Hid (backV s k = lastE (rns s)) := by
      unfold Hid backV lastE
      exact backF_all k _ 0 (fun e he => by obtain ⟨p, hp, rfl⟩ := List.mem_map.1 he; exact hall p hp)
    clear hall
    gi_wp2
    refine ⟨by simp, .inl ⟨_, _, rfl, run_takeDeferred hK, ?_⟩⟩
    exact ⟨_, back_results _ _ _ _ rfl rfl, by rw [HE.out], (hbw.trans (hB.mono (by omega))).trans (belowK_b (w := w) (Nat.le_refl _) W D _ _ (by omega) hK rfl rfl)⟩
  case stop =>
    rintro D c pre W hD hpre ⟨⟨rfl, q, x, rfl, hall, hx, hS⟩, hB⟩ hK
    have hWs := hB.size
    have cS := hS.cell
    have HE : Hid (backV s k = lastE q) := by
      unfold Hid backV lastE
      obtain ⟨r, hr⟩ := hpre
      rw [← hr]
      simp only [List.map_append, List.map_cons, List.append_assoc, List.singleton_append]
      exact backF_cut k _ 0 x.2 _ (fun e he => by obtain ⟨p, hp, rfl⟩ := List.mem_map.1 he; exact hall p hp) hx
    clear hall hpre hx
    gi_wp2
    refine ⟨by simp, .inl ⟨_, _, rfl, run_takeDeferred hK, ?_⟩⟩
    exact ⟨_, back_results _ _ _ _ rfl rfl, by rw [HE.out], (hbw.trans (hB.mono (by omega))).trans (belowK_b (w := w) (Nat.le_refl _) W D _ _ (by omega) hK rfl rfl)⟩

set_option maxRecDepth 100000 in
set_option maxHeartbeats 4000000 in
theorem back_bad (v : Value) (s : List UInt8) (k : Int) (w : World) (hw : Lay w) (hv : RdB w.heap.size w v s) (hno : chkE s ≠ 0) :
    Calls Tryd.prog 26 #[v, .int .i64 k] w fun e w' => e = .returned (.tuple #[.int .i64 0, .int .i64 ((chkE s : Nat) : Int)]) ∧ Below w.heap.size w w' := by
  have hv0 := hv
  obtain ⟨va, cap, rfl, hcap, hc2, hcells⟩ := hv
  clear hcells
  have hBN : Below w.heap.size w (w.alloc (.cells #[.int .i64 k] 3)) := (Below.refl _ w).alloc (Nat.le_refl _) _
  have HC := Lib.hid (check_any (.slice va s.length cap) s _ (hw.next hBN) (hv0.next hBN))
  obtain ⟨ca, hca⟩ : ∃ c, chkA s = c := ⟨_, rfl⟩
  obtain ⟨q, hq⟩ : ∃ q, chkE s = q := ⟨_, rfl⟩
  rw [hca, hq] at HC
  rw [hq] at hno ⊢
  have hne : ((q : Int) != 0) = true := by rw [bne_iff_ne]; omega
  clear hq hca hno
  refine (callsIn_wide (n := 4)).1 ?_
  refine callsIn_of_wp_marks Tryd.func26 rfl trivial ?_ rfl
  simp only [Tryd.ntmps26, List.size_toArray, List.length_cons, List.length_nil, Nat.reduceAdd, Nat.reduceSub, Array.replicate_succ, Array.replicate_zero, List.push_toArray, List.append_toArray, List.nil_append, List.cons_append]
  gi_wp2_with (refine ⟨trivial, ?_⟩; gi_at_call 13; refine (callsIn_wide.2 HC.out).mono ?_; rintro e w1 ⟨rfl, hb1⟩)
  exact ⟨_, back_results _ _ _ _ rfl rfl, rfl, hBN.trans (hb1.mono hBN.size)⟩
set_option maxRecDepth 100000 in
set_option maxHeartbeats 4000000 in
theorem back_out (v : Value) (s : List UInt8) (k : Int) (w : World) (hw : Lay w) (hv : RdB w.heap.size w v s) (hok : chkE s = 0) (hk : k < 0 ∨ (s.length : Int) < k) :
    Calls Tryd.prog 26 #[v, .int .i64 k] w fun e w' => e = .returned (.tuple #[.int .i64 0, .int .i64 7]) ∧ Below w.heap.size w w' := by
  have hv0 := hv
  obtain ⟨va, cap, rfl, hcap, hc2, hcells⟩ := hv
  clear hcells
  have hBN : Below w.heap.size w (w.alloc (.cells #[.int .i64 k] 3)) := (Below.refl _ w).alloc (Nat.le_refl _) _
  have bN := Boxed.new w 3 (.int .i64 k)
  have HC := Lib.hid (check_any (.slice va s.length cap) s _ (hw.next hBN) (hv0.next hBN))
  obtain ⟨ca, hca⟩ : ∃ c, chkA s = c := ⟨_, rfl⟩
  rw [hca, hok] at HC
  clear hca hok
  refine (callsIn_wide (n := 4)).1 ?_
  rcases (show k < 0 ∨ (¬ k < 0 ∧ (s.length : Int) < k) by omega) with h1 | ⟨h1, h2⟩
  · have d0 : decide (k < 0) = true := decide_eq_true h1
    clear hk
    refine callsIn_of_wp_marks Tryd.func26 rfl trivial ?_ rfl
    simp only [Tryd.ntmps26, List.size_toArray, List.length_cons, List.length_nil, Nat.reduceAdd, Nat.reduceSub, Array.replicate_succ, Array.replicate_zero, List.push_toArray, List.append_toArray, List.nil_append, List.cons_append]
    gi_wp2_with (refine ⟨trivial, ?_⟩; gi_at_call 13; refine (callsIn_wide.2 HC.out).mono ?_; rintro e w1 ⟨rfl, hb1⟩; have bN1 := boxed_below bN hb1; have cN1 := bN1.cell)
    exact ⟨_, back_results _ _ _ _ rfl rfl, rfl, hBN.trans (hb1.mono hBN.size)⟩
  · have d0 : decide (k < 0) = false := decide_eq_false h1
    clear hk
    refine callsIn_of_wp_marks Tryd.func26 rfl trivial ?_ rfl
    simp only [Tryd.ntmps26, List.size_toArray, List.length_cons, List.length_nil, Nat.reduceAdd, Nat.reduceSub, Array.replicate_succ, Array.replicate_zero, List.push_toArray, List.append_toArray, List.nil_append, List.cons_append]
    gi_wp2_with (refine ⟨trivial, ?_⟩; gi_at_call 13; refine (callsIn_wide.2 HC.out).mono ?_; rintro e w1 ⟨rfl, hb1⟩; have bN1 := boxed_below bN hb1; have cN1 := bN1.cell)
    exact ⟨_, back_results _ _ _ _ rfl rfl, rfl, hBN.trans (hb1.mono hBN.size)⟩

/-- **Back, at every bytes and every place.** -/
theorem back_any (v : Value) (s : List UInt8) (k : Int) (w : World) (hw : Lay w) (hv : RdB w.heap.size w v s) :
    Calls Tryd.prog 26 #[v, .int .i64 k] w fun e w' => e = .returned (.tuple #[.int .i64 ((bakV s k : Nat) : Int), .int .i64 ((bakE s k : Nat) : Int)]) ∧ Below w.heap.size w w' := by
  by_cases hok : chkE s = 0
  · by_cases hk : k < 0 ∨ (s.length : Int) < k
    · have e1 : bakE s k = 7 := by unfold bakE; rw [if_pos hok, if_pos hk]
      have e2 : bakV s k = 0 := by unfold bakV; rw [e1]; rfl
      rw [e1, e2]
      exact back_out v s k w hw hv hok hk
    · have e1 : bakE s k = 0 := by unfold bakE; rw [if_pos hok, if_neg hk]
      have e2 : bakV s k = backV s k.toNat := by unfold bakV; rw [e1]; rfl
      rw [e1, e2]
      obtain ⟨m, rfl⟩ : ∃ m : Nat, k = m := ⟨k.toNat, by omega⟩
      exact callsIn_wide.1 (back_ok_in 4 (Nat.le_refl _) v s m w hw hv hok (by omega))
  · have e1 : bakE s k = chkE s := by unfold bakE; rw [if_neg hok]
    have e2 : bakV s k = 0 := by unfold bakV; rw [e1, if_neg hok]
    rw [e1, e2]
    exact back_bad v s k w hw hv hok

def onV (s : List UInt8) (k : Int) : Bool := decide (bakE s k = 0 ∧ (bakV s k : Int) = k)
set_option maxHeartbeats 400000 in
theorem on_any (v : Value) (s : List UInt8) (k : Int) (w : World) (hw : Lay w) (hv : RdB w.heap.size w v s) :
    Calls Tryd.prog 24 #[v, .int .i64 k] w fun e w' => e = .returned (.tuple #[.bool (onV s k), .int .i64 ((bakE s k : Nat) : Int)]) ∧ Below w.heap.size w w' := by
  have HB := Lib.hid (back_any v s k w hw hv)
  obtain ⟨q, hq⟩ : ∃ q, bakE s k = q := ⟨_, rfl⟩
  obtain ⟨u, hu⟩ : ∃ u, bakV s k = u := ⟨_, rfl⟩
  rw [hq, hu] at HB
  have hon : onV s k = decide (q = 0 ∧ (u : Int) = k) := by unfold onV; rw [hq, hu]
  rw [hq]
  clear hq hu
  by_cases h1 : q = 0
  · subst h1
    by_cases h2 : (u : Int) = k
    · have HO := Lib.hid (show onV s k = true by rw [hon]; exact decide_eq_true ⟨rfl, h2⟩)
      have h3 : ((u : Int) == k) = true := by rw [beq_iff_eq]; exact h2
      clear hon h2
      go_enter Tryd.func24, Tryd.ntmps24
      go_wp2_with (go_at_call 26; refine HB.out.mono ?_; rintro e w' ⟨rfl, hb⟩)
      go_ret2
      exact ⟨by rw [HO.out]; rfl, hb⟩
    · have HO := Lib.hid (show onV s k = false by rw [hon]; exact decide_eq_false (fun h => h2 h.2))
      have h3 : ((u : Int) == k) = false := by rw [beq_eq_false_iff_ne]; exact h2
      clear hon h2
      go_enter Tryd.func24, Tryd.ntmps24
      go_wp2_with (go_at_call 26; refine HB.out.mono ?_; rintro e w' ⟨rfl, hb⟩)
      go_ret2
      exact ⟨by rw [HO.out]; rfl, hb⟩
  · have HO := Lib.hid (show onV s k = false by rw [hon]; exact decide_eq_false (fun h => h1 h.1))
    have h3 : ((q : Int) == 0) = false := by rw [beq_eq_false_iff_ne]; omega
    clear hon h1
    go_enter Tryd.func24, Tryd.ntmps24
    go_wp2_with (go_at_call 26; refine HB.out.mono ?_; rintro e w' ⟨rfl, hb⟩)
    go_ret2
    exact ⟨by rw [HO.out]; rfl, hb⟩
end Go.Proofs.YtomffjaeafcpdaaDoor
