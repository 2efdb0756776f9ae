/- symMerge of Go's stable sort over a row of places: whatever the stretches, they are merged. -/
import Derived.Test.YtpbfbejckhbijaaDoorFiLz
import Derived.Deep.DeepCutAuto
namespace Go.Proofs.YtpbfbejckhbijaaDoor
open Go.RowKit Go.Sort
/-- What the merge stands on: a row of places, and the closure that compares two of them. -/
structure SBase (z : List Int) {N : Nat} (w0 : World) (blk S gb : Nat) (d0 : Array (Fin (N + 1))) : Prop where
  hold : Holds encF w0 blk 0 d0
  size : d0.size = S
  small : S ≤ 100000
  reads : ∀ (n : Nat) (d : Array (Fin (N + 1))), d.size = S → CmpReads Tryd.prog 26 #[.pointer (some ⟨gb, 0, none⟩)] (encF (m := N + 1)) (cfF z) blk 0 S (putRow encF (Sort.ahead w0 n) blk 0 d)
  cmp : ∀ (n : Nat) (dk : Array (Fin (N + 1))), dk.size = S → ∀ x y : Fin (N + 1), Calls Tryd.prog 26 #[encF x, encF y, .pointer (some ⟨gb, 0, none⟩)] (putRow encF (Sort.ahead w0 n) blk 0 dk) fun e w' => e = .returned (.int .i64 (cfF z x y)) ∧ ∃ q, w' = (putRow encF (Sort.ahead w0 n) blk 0 dk).drewN q
section
variable {z : List Int} {N : Nat} {w0 : World} {blk S gb : Nat} {d0 : Array (Fin (N + 1))}
theorem SBase.holds (B : SBase z w0 blk S gb d0) (n : Nat) {d : Array (Fin (N + 1))} (hd : d.size = S) : Holds encF (putRow encF (Sort.ahead w0 n) blk 0 d) blk 0 d :=
  holds_putRow encF _ blk 0 d0 d (holds_ahead _ _ _ _ _ _ B.hold) (by rw [hd, B.size])
theorem SBase.cell (B : SBase z w0 blk S gb d0) (n : Nat) {d : Array (Fin (N + 1))} (hd : d.size = S) {i : Nat} (hi : i < S) : (putRow encF (Sort.ahead w0 n) blk 0 d).cell? ⟨blk, i, none⟩ = some (.int .i64 ((d[i]!).val : Int)) ∧ (putRow encF (Sort.ahead w0 n) blk 0 d).frozen? ⟨blk, i, none⟩ = false := by
  have h := B.holds n hd i (by omega)
  rw [Nat.zero_add] at h
  exact h
theorem SBase.call (B : SBase z w0 blk S gb d0) (n : Nat) {d : Array (Fin (N + 1))} (hd : d.size = S) (x y : Fin (N + 1)) (k : Nat) :
    Calls Tryd.prog 26 #[.int .i64 (x.val : Int), .int .i64 (y.val : Int), .pointer (some ⟨gb, 0, none⟩)] ((putRow encF (Sort.ahead w0 n) blk 0 d).drewN k) fun e w' => e = .returned (.int .i64 (cfF z x y)) ∧ ∃ m, w' = (putRow encF (Sort.ahead w0 n) blk 0 d).drewN m := by
  rw [putRow_drewN]
  refine (B.cmp (n + k) d hd x y).mono ?_
  rintro e w' ⟨h1, q, h2⟩
  exact ⟨h1, k + q, by rw [h2, putRow_drewN, putRow_drewN, Nat.add_assoc]⟩
end
/-- What a merge leaves. -/
def MgW (z : List Int) {N : Nat} (w0 : World) (blk S : Nat) (d : Array (Fin (N + 1))) (a b : Nat) (w' : World) : Prop := ∃ (n : Nat) (dk : Array (Fin (N + 1))), dk.size = S ∧ Mrg z (fun t => d[t]!) (fun t => dk[t]!) a b ∧ w' = putRow encF (Sort.ahead w0 n) blk 0 dk
def clo (gb : Nat) : Value := .func (.func 26) #[] #[.pointer (some ⟨gb, 0, none⟩)]

set_option maxRecDepth 100000 in
set_option maxHeartbeats 4000000 in
theorem sym_one {z : List Int} {N : Nat} {w0 : World} {blk S gb : Nat} {d0 : Array (Fin (N + 1))} (B : SBase z w0 blk S gb d0) (n : Nat) (d : Array (Fin (N + 1))) (hd : d.size = S) (a m b : Nat) (hm : m = a + 1) (hmb : m ≤ b) (hb : b ≤ S) (h : Two z (fun t => d[t]!) a m b) :
    Calls Tryd.prog 44 #[.slice (some ⟨blk, 0, none⟩) S S, .int .i64 a, .int .i64 m, .int .i64 b, .func (.func 26) #[] #[.pointer (some ⟨gb, 0, none⟩)]] (putRow encF (Sort.ahead w0 n) blk 0 d) fun e w' => e = .returned (.tuple #[]) ∧ MgW z w0 blk S d a b w' := by
  have hS := B.small
  have k1 : IntKind.i64.wrap ((m : Int) - (a : Int)) = 1 := by rw [IntKind.wrap_i64]; omega
  have HB := Lib.hid B
  have HD := Lib.hid hd
  have HT := Lib.hid h
  have HM := Lib.hid hm
  have ham : a < m := by omega
  clear B hd h hm
  obtain ⟨W, hW⟩ : ∃ W, W = putRow encF (Sort.ahead w0 n) blk 0 d := ⟨_, rfl⟩
  rw [← hW]
  have HW := Lib.hid hW
  clear hW
  go_enter Tryd.func44, Tryd.ntmps44
  go_wp2
  go_loopw [10, 11] (fun vi vj wr => ∃ (i j n' : Nat), vi = .int .i64 i ∧ vj = .int .i64 j ∧ Hid (Bin (fun x => ltZ z x d[a]!) (fun x => ltZ z d[a]! x) (fun t => d[t]!) m b i j) ∧ i ≤ j ∧ j ≤ b ∧ m ≤ i ∧ Hid (wr = putRow encF (Sort.ahead w0 n') blk 0 d)) (fun vi vj _ => (intOf vj - intOf vi).toNat)
  case atStart => exact ⟨m, b, n, rfl, rfl, Bin.start _ _ _ hmb, hmb, Nat.le_refl _, Nat.le_refl _, HW.out⟩
  case round =>
    obtain ⟨i, j, n', rfl, rfl, HI, hij, hjb, hmi, HW2⟩ := hrel
    by_cases hlt : i < j
    · obtain ⟨c, hc⟩ : ∃ c, c = (i + j) / 2 := ⟨_, rfl⟩
      have kc : ((i : Int) + (j : Int)) / 2 = (c : Int) := by omega
      have hc1 : i ≤ c := by omega
      have hc2 : c < j := by omega
      have hca := HB.out.cell n' HD.out (i := a) (by omega)
      have hcc := HB.out.cell n' HD.out (i := c) (by omega)
      have HC := Lib.hid (HB.out.call n' HD.out d[c]! d[a]!)
      rw [← HW2.out] at hca hcc HC
      have ca := hca.1
      have cc := hcc.1
      have kS : (c : Int) < (S : Int) := by omega
      have kA : (a : Int) < (S : Int) := by omega
      have hpl := HT.out.p a c (Nat.le_refl _) (by omega) (by omega) (by omega)
      have HA : Hid ((cfF z d[c]! d[a]! < 0 → ltZ z d[c]! d[a]!) ∧ (¬ cfF z d[c]! d[a]! < 0 → ltZ z d[a]! d[c]!)) := ⟨ask_lt z hpl, ask_ge z hpl⟩
      clear hca hcc hpl hc
      generalize cfF z d[c]! d[a]! = R at HC HA
      generalize ((d[c]!).val : Int) = x at cc HC
      generalize ((d[a]!).val : Int) = y at ca HC
      have st1 : R < 0 → Hid (Bin (fun x => ltZ z x d[a]!) (fun x => ltZ z d[a]! x) (fun t => d[t]!) m b (c + 1) j) := fun hR => HI.out.up (c := c) (fun t t1 t2 hc => ltZ_tr z _ _ _ (HT.out.r t c (by omega) t2 (by omega)) hc) hc1 hc2 (HA.out.1 hR)
      have st2 : ¬ R < 0 → Hid (Bin (fun x => ltZ z x d[a]!) (fun x => ltZ z d[a]! x) (fun t => d[t]!) m b i c) := fun hR => HI.out.down (c := c) (fun t t1 t2 hc => ltZ_tr z _ _ _ hc (HT.out.r c t (by omega) t1 (by omega))) hc1 hc2 (HA.out.2 hR)
      have S1 := Lib.hid st1
      have S2 := Lib.hid st2
      clear st1 st2
      have HP := Lib.hid (fun q => putRow_drewN encF w0 n' q blk 0 d)
      rw [← HW2.out] at HP
      by_cases hR : R < 0
      · go_wp2_with fail
        go_quiet (first | (go_at_call 26; exact HC.out _) | fail)
        go_wp2_with fail
        go_roundw
        case rel => exact ⟨c + 1, j, n' + nq, by go_num, rfl, S1.out hR, by omega, hjb, by omega, HP.out _⟩
        case measure => simp [intOf]; omega
      · go_wp2_with fail
        go_quiet (first | (go_at_call 26; exact HC.out _) | fail)
        go_wp2_with fail
        go_roundw
        case rel => exact ⟨i, c, n' + nq, rfl, rfl, S2.out hR, hc1, by omega, hmi, HP.out _⟩
        case measure => simp [intOf]; omega
    · have hji : j = i := by omega
      subst hji
      have HB2 := Lib.hid (mrg_one (HM.out ▸ HT.out) (by have := HM.out; omega) hjb (fun t t1 t2 => HI.out.yes t (by have := HM.out; omega) t2) (fun t t1 t2 => HI.out.no t t1 t2))
      clear HI hlt
      go_wp2_with fail
      have hsub : Hid (∀ (k : Nat) (dk : Array (Fin (N + 1))), a ≤ k → k + 2 ≤ j → dk.size = S → (fun t => dk[t]!) = rtt (fun t => d[t]!) a (a + 1) (k + 1) → (fun t => (Sort.swp dk k (k + 1))[t]!) = rtt (fun t => d[t]!) a (a + 1) (k + 2)) := fun k dk h1 h2 h3 h4 => by
        funext x
        rw [rtt_swap_up _ h1, ← h4]
        show (Sort.swp dk k (k + 1))[x]! = _
        rw [swp_get _ (by omega) (by omega)]
      go_loopw [13] (fun vk wr => ∃ (k n' : Nat) (dk : Array (Fin (N + 1))), vk = .int .i64 k ∧ a ≤ k ∧ k + 1 ≤ j ∧ Hid (dk.size = S) ∧ Hid ((fun t => dk[t]!) = rtt (fun t => d[t]!) a (a + 1) (k + 1)) ∧ Hid (wr = putRow encF (Sort.ahead w0 n') blk 0 dk)) (fun vk _ => j - (intOf vk).toNat)
      case atStart => exact ⟨a, n', d, rfl, Nat.le_refl _, by omega, HD.out, (rtt_none _ (.inr rfl) (by omega) (by omega)).symm, HW2.out⟩
      case round =>
        clear HW2
        obtain ⟨k, n1, dk, rfl, hak, hkj, HS, HR, HW2⟩ := hrel
        have kj : IntKind.i64.wrap ((j : Int) - 1) = (j : Int) - 1 := by rw [IntKind.wrap_i64]; omega
        by_cases hlt : k + 2 ≤ j
        · obtain ⟨p, hp⟩ : ∃ p, k + 1 = p := ⟨_, rfl⟩
          have c1 := HB.out.cell n1 HS.out (i := k) (by omega)
          have c2 := HB.out.cell n1 HS.out (i := p) (by omega)
          have HE : Hid (∀ q, ((wr.drewN q).setCell ⟨blk, k, none⟩ (.int .i64 (dk[p]!.val : Int))).setCell ⟨blk, p, none⟩ (.int .i64 (dk[k]!.val : Int)) = putRow encF (Sort.ahead w0 (n1 + q)) blk 0 (Sort.swp dk k p)) := fun q => by
            have h := swap_worldA (enc := encF) w0 n1 q blk 0 dk k p (by have := HS.out; omega) (by have := HS.out; omega)
            rw [HW2.out]
            rw [Nat.zero_add, Nat.zero_add] at h
            exact h
          have HN : Hid ((fun t => (Sort.swp dk k p)[t]!) = rtt (fun t => d[t]!) a (a + 1) (p + 1)) := by rw [← hp]; exact hsub.out k dk hak hlt HS.out HR.out
          have HZ : Hid ((Sort.swp dk k p).size = S) := by unfold Hid; rw [size_swp]; exact HS.out
          rw [← HW2.out] at c1 c2
          have cp := c1.1; have fp := c1.2; have cq := c2.1; have fq := c2.2
          have k3 : IntKind.i64.wrap ((k : Int) + 1) = (p : Int) := by rw [IntKind.wrap_i64]; omega
          have k4 : (k : Int) < (j : Int) - 1 := by omega
          have k5 : (k : Int) + 1 = (p : Int) := by omega
          have kk : (k : Int) < (S : Int) := by omega
          have kp : (p : Int) < (S : Int) := by omega
          have hpj : p + 1 ≤ j := by omega
          have hap : a ≤ p := by omega
          have HPK := Lib.hid hp
          clear c1 c2 hp hsub HS HR HW2
          generalize (dk[p]!.val : Int) = x at cq HE
          generalize (dk[k]!.val : Int) = y at cp HE
          generalize Sort.swp dk k p = dn at HE HN HZ
          go_wp2
          go_region
          all_goals go_wp2
          go_roundw
          case rel => exact ⟨p, _, dn, rfl, hap, hpj, HZ, HN, HE.out _⟩
          case measure => simp [intOf]; have := HPK.out; omega
        · have k4 : ¬ ((k : Int) < (j : Int) - 1) := by omega
          have hE : k + 1 = j := by omega
          rw [hE] at HR
          have HEnd : Hid (MgW z w0 blk S d a b wr) := ⟨n1, dk, HS.out, by rw [HR.out]; exact HB2.out, HW2.out⟩
          clear hsub HS HR HW2 hE HB2
          go_wp2
          refine bodyPost_ret (v := .tuple #[]) (by simp [results, Tryd.results44, go_sem]) rfl ?_
          exact ⟨rfl, HEnd.out⟩
set_option maxRecDepth 100000 in
set_option maxHeartbeats 4000000 in
theorem sym_last {z : List Int} {N : Nat} {w0 : World} {blk S gb : Nat} {d0 : Array (Fin (N + 1))} (B : SBase z w0 blk S gb d0) (n : Nat) (d : Array (Fin (N + 1))) (hd : d.size = S) (a m b : Nat) (hm : b = m + 1) (ham : a + 1 < m) (hb : b ≤ S) (h : Two z (fun t => d[t]!) a m b) :
    Calls Tryd.prog 44 #[.slice (some ⟨blk, 0, none⟩) S S, .int .i64 a, .int .i64 m, .int .i64 b, .func (.func 26) #[] #[.pointer (some ⟨gb, 0, none⟩)]] (putRow encF (Sort.ahead w0 n) blk 0 d) fun e w' => e = .returned (.tuple #[]) ∧ MgW z w0 blk S d a b w' := by
  have hS := B.small
  have k1 : IntKind.i64.wrap ((m : Int) - (a : Int)) = (m : Int) - (a : Int) := by rw [IntKind.wrap_i64]; omega
  have k1b : ((m : Int) - (a : Int) == 1) = false := by rw [beq_eq_false_iff_ne]; omega
  have k1c : IntKind.i64.wrap ((b : Int) - (m : Int)) = 1 := by rw [IntKind.wrap_i64]; omega
  have HB := Lib.hid B
  have HD := Lib.hid hd
  have HT := Lib.hid h
  have HM := Lib.hid hm
  have hmb : m < b := by omega
  clear B hd h hm
  obtain ⟨W, hW⟩ : ∃ W, W = putRow encF (Sort.ahead w0 n) blk 0 d := ⟨_, rfl⟩
  rw [← hW]
  have HW := Lib.hid hW
  clear hW
  go_enter Tryd.func44, Tryd.ntmps44
  go_wp2
  clear k1 k1b
  go_loopw [14, 15] (fun vi vj wr => ∃ (i j n' : Nat), vi = .int .i64 i ∧ vj = .int .i64 j ∧ Hid (Bin (fun x => ltZ z x d[m]!) (fun x => ltZ z d[m]! x) (fun t => d[t]!) a m i j) ∧ i ≤ j ∧ j ≤ m ∧ a ≤ i ∧ Hid (wr = putRow encF (Sort.ahead w0 n') blk 0 d)) (fun vi vj _ => (intOf vj - intOf vi).toNat)
  case atStart => exact ⟨a, m, n, rfl, rfl, Bin.start _ _ _ (by omega), by omega, Nat.le_refl _, Nat.le_refl _, HW.out⟩
  case round =>
    obtain ⟨i, j, n', rfl, rfl, HI, hij, hjb, hmi, HW2⟩ := hrel
    by_cases hlt : i < j
    · obtain ⟨c, hc⟩ : ∃ c, c = (i + j) / 2 := ⟨_, rfl⟩
      have kc : ((i : Int) + (j : Int)) / 2 = (c : Int) := by omega
      have hc1 : i ≤ c := by omega
      have hc2 : c < j := by omega
      have hca := HB.out.cell n' HD.out (i := m) (by omega)
      have hcc := HB.out.cell n' HD.out (i := c) (by omega)
      have HC := Lib.hid (HB.out.call n' HD.out d[m]! d[c]!)
      rw [← HW2.out] at hca hcc HC
      have ca := hca.1
      have cc := hcc.1
      have kS : (c : Int) < (S : Int) := by omega
      have kA : (m : Int) < (S : Int) := by omega
      have hpl := HT.out.p c m (by omega) (by omega) (Nat.le_refl _) hmb
      have HA : Hid ((cfF z d[m]! d[c]! < 0 → ltZ z d[m]! d[c]!) ∧ (¬ cfF z d[m]! d[c]! < 0 → ltZ z d[c]! d[m]!)) := ⟨ask_lt z hpl, ask_ge z hpl⟩
      clear hca hcc hpl hc
      generalize cfF z d[m]! d[c]! = R at HC HA
      generalize ((d[c]!).val : Int) = x at cc HC
      generalize ((d[m]!).val : Int) = y at ca HC
      have st1 : ¬ R < 0 → Hid (Bin (fun x => ltZ z x d[m]!) (fun x => ltZ z d[m]! x) (fun t => d[t]!) a m (c + 1) j) := fun hR => HI.out.up (c := c) (fun t t1 t2 hc => ltZ_tr z _ _ _ (HT.out.l t c (by omega) t2 (by omega)) hc) hc1 hc2 (HA.out.2 hR)
      have st2 : R < 0 → Hid (Bin (fun x => ltZ z x d[m]!) (fun x => ltZ z d[m]! x) (fun t => d[t]!) a m i c) := fun hR => HI.out.down (c := c) (fun t t1 t2 hc => ltZ_tr z _ _ _ hc (HT.out.l c t (by omega) t1 (by omega))) hc1 hc2 (HA.out.1 hR)
      have S1 := Lib.hid st1
      have S2 := Lib.hid st2
      clear st1 st2 HA
      have HP := Lib.hid (fun q => putRow_drewN encF w0 n' q blk 0 d)
      rw [← HW2.out] at HP
      by_cases hR : R < 0
      · have kr : decide (R < 0) = true := decide_eq_true hR
        have SS := S2.out hR
        clear S1 S2 hR
        go_wp2_with fail
        go_quiet (first | (go_at_call 26; exact HC.out _) | fail)
        go_wp2_with fail
        go_roundw
        case rel => exact ⟨i, c, n' + nq, rfl, rfl, SS, hc1, by omega, hmi, HP.out _⟩
        case measure => simp [intOf]; omega
      · have kr : decide (R < 0) = false := decide_eq_false hR
        have SS := S1.out hR
        clear S1 S2 hR
        go_wp2_with fail
        go_quiet (first | (go_at_call 26; exact HC.out _) | fail)
        go_wp2_with fail
        go_roundw
        case rel => exact ⟨c + 1, j, n' + nq, by go_num, rfl, SS, by omega, hjb, by omega, HP.out _⟩
        case measure => simp [intOf]; omega
    · have hji : j = i := by omega
      subst hji
      have HB2 : Hid (Mrg z (fun t => d[t]!) (rtt (fun t => d[t]!) j m (m + 1)) a (m + 1)) := mrg_last (HM.out ▸ HT.out) hmi hjb (fun t t1 t2 => HI.out.yes t t1 t2) (fun t t1 t2 => HI.out.no t t1 t2)
      clear HI hlt
      go_wp2_with fail
      have hsub : Hid (∀ (k : Nat) (dk : Array (Fin (N + 1))), k + 1 ≤ m → dk.size = S → (fun t => dk[t]!) = rtt (fun t => d[t]!) (k + 1) m (m + 1) → (fun t => (Sort.swp dk (k + 1) k)[t]!) = rtt (fun t => d[t]!) k m (m + 1)) := fun k dk h1 h3 h4 => by
        funext x
        rw [rtt_swap_down _ h1, ← h4]
        show (Sort.swp dk (k + 1) k)[x]! = _
        rw [swp_get _ (by omega) (by omega)]
      go_loopw [17] (fun vk wr => ∃ (k n' : Nat) (dk : Array (Fin (N + 1))), vk = .int .i64 k ∧ j ≤ k ∧ k ≤ m ∧ Hid (dk.size = S) ∧ Hid ((fun t => dk[t]!) = rtt (fun t => d[t]!) k m (m + 1)) ∧ Hid (wr = putRow encF (Sort.ahead w0 n') blk 0 dk)) (fun vk _ => (intOf vk).toNat)
      case atStart => exact ⟨m, n', d, rfl, hjb, Nat.le_refl _, HD.out, (rtt_none _ (.inl rfl) (by omega) (by omega)).symm, HW2.out⟩
      case round =>
        clear HW2
        obtain ⟨k, n1, dk, rfl, hak, hkj, HS, HR, HW2⟩ := hrel
        by_cases hlt : j < k
        · obtain ⟨p, hp⟩ : ∃ p, k = p + 1 := ⟨k - 1, by omega⟩
          have c1 := HB.out.cell n1 HS.out (i := k) (by omega)
          have c2 := HB.out.cell n1 HS.out (i := p) (by omega)
          have HE : Hid (∀ q, ((wr.drewN q).setCell ⟨blk, k, none⟩ (.int .i64 (dk[p]!.val : Int))).setCell ⟨blk, p, none⟩ (.int .i64 (dk[k]!.val : Int)) = putRow encF (Sort.ahead w0 (n1 + q)) blk 0 (Sort.swp dk k p)) := fun q => by
            have h := swap_worldA (enc := encF) w0 n1 q blk 0 dk k p (by have := HS.out; omega) (by have := HS.out; omega)
            rw [HW2.out]
            rw [Nat.zero_add, Nat.zero_add] at h
            exact h
          have HN : Hid ((fun t => (Sort.swp dk k p)[t]!) = rtt (fun t => d[t]!) p m (m + 1)) := by rw [hp]; exact hsub.out p dk (by omega) HS.out (by rw [← hp]; exact HR.out)
          have HZ : Hid ((Sort.swp dk k p).size = S) := by unfold Hid; rw [size_swp]; exact HS.out
          rw [← HW2.out] at c1 c2
          have cp := c1.1; have fp := c1.2; have cq := c2.1; have fq := c2.2
          have k3 : IntKind.i64.wrap ((k : Int) - 1) = (p : Int) := by rw [IntKind.wrap_i64]; omega
          have k5 : (k : Int) - 1 = (p : Int) := by omega
          have kk : (k : Int) < (S : Int) := by omega
          have kp : (p : Int) < (S : Int) := by omega
          have hpj : j ≤ p := by omega
          have hap : p ≤ m := by omega
          have k4 : (j : Int) < (k : Int) := by omega
          have HPK := Lib.hid hp
          clear c1 c2 hp hsub HS HR HW2
          generalize (dk[p]!.val : Int) = x at cq HE
          generalize (dk[k]!.val : Int) = y at cp HE
          generalize Sort.swp dk k p = dn at HE HN HZ
          go_wp2
          go_region
          all_goals go_wp2
          go_roundw
          case rel => exact ⟨p, _, dn, rfl, hpj, hap, HZ, HN, HE.out _⟩
          case measure => simp [intOf]; have := HPK.out; omega
        · have k4 : ¬ ((j : Int) < (k : Int)) := by omega
          have hE : k = j := by omega
          rw [hE] at HR
          have HEnd : Hid (MgW z w0 blk S d a b wr) := ⟨n1, dk, HS.out, by rw [HR.out, HM.out]; exact HB2.out, HW2.out⟩
          clear hsub HS HR HW2 hE HB2
          go_wp2
          refine bodyPost_ret (v := .tuple #[]) (by simp [results, Tryd.results44, go_sem]) rfl ?_
          exact ⟨rfl, HEnd.out⟩
theorem sym_rotate {z : List Int} {N : Nat} {w0 : World} {blk S gb : Nat} {d0 : Array (Fin (N + 1))} (B : SBase z w0 blk S gb d0) (n : Nat) (d : Array (Fin (N + 1))) (hd : d.size = S) (a m b : Nat) (c : Value) (ham : a < m) (hmb : m < b) (hb : b ≤ S) :
    Calls Tryd.prog 54 #[.slice (some ⟨blk, 0, none⟩) S S, .int .i64 a, .int .i64 m, .int .i64 b, c] (putRow encF (Sort.ahead w0 n) blk 0 d) fun e w' => e = .returned (.tuple #[]) ∧ ∃ (n' : Nat) (dk : Array (Fin (N + 1))), dk.size = S ∧ (fun t => dk[t]!) = rtt (fun t => d[t]!) a m b ∧ w' = putRow encF (Sort.ahead w0 n') blk 0 dk := by
  have h := rotate_any d blk a m b c _ (B.holds n hd) ham hmb (by omega) (by have := B.small; omega)
  rw [hd] at h
  refine h.mono ?_
  rintro e w' ⟨h1, q, dk, h2, h3, h4⟩
  exact ⟨h1, n + q, dk, h2, h3, by rw [h4]; exact putRow_ahead_putRow encF w0 n q blk 0 d dk (by omega)⟩
set_option maxRecDepth 100000 in
set_option maxHeartbeats 8000000 in
theorem sym_main {z : List Int} {N : Nat} {w0 : World} {blk S gb : Nat} {d0 : Array (Fin (N + 1))} (B : SBase z w0 blk S gb d0) (n : Nat) (d : Array (Fin (N + 1))) (hd : d.size = S) (a m b : Nat) (ham : a + 1 < m) (hmb : m + 1 < b) (hb : b ≤ S) (h : Two z (fun t => d[t]!) a m b)
    (ih : ∀ (n : Nat) (d : Array (Fin (N + 1))), d.size = S → ∀ a' m' b', b' - a' < b - a → a' < m' → m' < b' → b' ≤ S → Two z (fun t => d[t]!) a' m' b' → Calls Tryd.prog 44 #[.slice (some ⟨blk, 0, none⟩) S S, .int .i64 a', .int .i64 m', .int .i64 b', .func (.func 26) #[] #[.pointer (some ⟨gb, 0, none⟩)]] (putRow encF (Sort.ahead w0 n) blk 0 d) fun e w' => e = .returned (.tuple #[]) ∧ MgW z w0 blk S d a' b' w') :
    Calls Tryd.prog 44 #[.slice (some ⟨blk, 0, none⟩) S S, .int .i64 a, .int .i64 m, .int .i64 b, .func (.func 26) #[] #[.pointer (some ⟨gb, 0, none⟩)]] (putRow encF (Sort.ahead w0 n) blk 0 d) fun e w' => e = .returned (.tuple #[]) ∧ MgW z w0 blk S d a b w' := by
  have hS := B.small
  have k1 : IntKind.i64.wrap ((m : Int) - (a : Int)) = (m : Int) - (a : Int) := by rw [IntKind.wrap_i64]; omega
  have k1b : ((m : Int) - (a : Int) == 1) = false := by rw [beq_eq_false_iff_ne]; omega
  have k1c : IntKind.i64.wrap ((b : Int) - (m : Int)) = (b : Int) - (m : Int) := by rw [IntKind.wrap_i64]; omega
  have k1d : ((b : Int) - (m : Int) == 1) = false := by rw [beq_eq_false_iff_ne]; omega
  obtain ⟨mid, hmid⟩ : ∃ mid, mid = (a + b) / 2 := ⟨_, rfl⟩
  obtain ⟨nn, hnn⟩ : ∃ nn, nn = mid + m := ⟨_, rfl⟩
  have k2 : ((a : Int) + (b : Int)) / 2 = (mid : Int) := by omega
  have k3 : (mid : Int) + (m : Int) = (nn : Int) := by omega
  have k4 : IntKind.i64.wrap ((nn : Int) - (b : Int)) = (nn : Int) - (b : Int) := by rw [IntKind.wrap_i64]; omega
  have hq1 : a < mid := by omega
  have hq2 : mid < b := by omega
  have hq3 : nn ≤ 400000 := by omega
  obtain ⟨s0, hs0⟩ : ∃ s0, s0 = if m > mid then mid + m - b else a := ⟨_, rfl⟩
  obtain ⟨r0, hr0⟩ : ∃ r0, r0 = if m > mid then mid else m := ⟨_, rfl⟩
  have hsr : s0 ≤ r0 := by rw [hs0, hr0]; split <;> omega
  have has : a ≤ s0 := by rw [hs0]; split <;> omega
  have hrm : r0 ≤ m := by rw [hr0]; split <;> omega
  have hidx : ∀ c, s0 ≤ c → c < r0 → m ≤ mid + m - 1 - c ∧ mid + m - 1 - c < b ∧ c ≤ mid + m - 1 := fun c h1 h2 => by
    rw [hs0] at h1; rw [hr0] at h2
    split at h1 <;> rename_i hc
    · rw [if_pos hc] at h2; omega
    · rw [if_neg hc] at h2; omega
  have HS0 : Hid ((m > mid → (s0 : Int) = (nn : Int) - (b : Int) ∧ r0 = mid) ∧ (¬ m > mid → s0 = a ∧ r0 = m)) := by
    refine ⟨fun hc => ?_, fun hc => ?_⟩
    · rw [hs0, hr0, if_pos hc, if_pos hc]; exact ⟨by omega, rfl⟩
    · rw [hs0, hr0, if_neg hc, if_neg hc]; exact ⟨rfl, rfl⟩
  have HSp : Hid (∀ s, Sym (ltZ z) (fun t => d[t]!) (mid + m - 1) s0 r0 s s → a ≤ s ∧ s ≤ m ∧ m ≤ mid + m - s ∧ mid + m - s ≤ b ∧ (a < s → mid + m - s < b → ltZ z d[s - 1]! d[mid + m - s]!) ∧ (s < m → m < mid + m - s → ltZ z d[mid + m - s - 1]! d[s]!)) := fun s hh => by
    rw [hs0, hr0] at hh
    exact Sym.split (a := a) (m := m) (b := b) (mid := mid) (by omega) (by omega) hmid hh
  have HB := Lib.hid B
  have HD := Lib.hid hd
  have HT := Lib.hid h
  have HX := Lib.hid hidx
  have HMd := Lib.hid hmid
  have HNn := Lib.hid hnn
  have HIH := Lib.hid ih
  clear B hd h hidx hmid hnn hs0 hr0 ih
  obtain ⟨W, hW⟩ : ∃ W, W = putRow encF (Sort.ahead w0 n) blk 0 d := ⟨_, rfl⟩
  rw [← hW]
  have HW := Lib.hid hW
  clear hW
  go_enter Tryd.func44, Tryd.ntmps44
  go_upto_if 140 with fail
  clear k1 k1b k1c k1d k2 k3
  go_cut [20, 21] (fun s r wx => s = .int .i64 s0 ∧ r = .int .i64 r0 ∧ wx = W)
  case first =>
    as_aux_lemma =>
      by_cases hc : m > mid
      · obtain ⟨e1, e2⟩ := HS0.out.1 hc
        have kc : (mid : Int) < (m : Int) := by omega
        have E1 := Lib.hid e1
        have E2 := Lib.hid e2
        clear e1 e2 hc HSp
        go_wp2_with fail
        go_meet
        case rel => exact ⟨by rw [← E1.out], by rw [E2.out], rfl⟩
      · obtain ⟨e1, e2⟩ := HS0.out.2 hc
        have kc : ¬ ((mid : Int) < (m : Int)) := by omega
        have E1 := Lib.hid e1
        have E2 := Lib.hid e2
        clear e1 e2 hc HSp
        go_wp2_with fail
        go_meet
        case rel => exact ⟨by rw [E1.out], by rw [E2.out], rfl⟩
  case rest =>
    obtain ⟨rfl, rfl, rfl⟩ := hcut
    clear HS0 k4
    have k5 : IntKind.i64.wrap ((nn : Int) - 1) = (nn : Int) - 1 := by rw [IntKind.wrap_i64]; omega
    go_wp2_with fail
    clear k5
    go_loopw [20, 21] (fun vs vr wr => ∃ (s r n' : Nat), vs = .int .i64 s ∧ vr = .int .i64 r ∧ Hid (Sym (ltZ z) (fun t => d[t]!) (mid + m - 1) s0 r0 s r) ∧ s ≤ r ∧ r ≤ r0 ∧ s0 ≤ s ∧ Hid (wr = putRow encF (Sort.ahead w0 n') blk 0 d)) (fun vs vr _ => (intOf vr - intOf vs).toNat)
    case atStart => exact ⟨s0, r0, n, rfl, rfl, Sym.start _ _ _ hsr, hsr, Nat.le_refl _, Nat.le_refl _, HW.out⟩
    case round =>
      obtain ⟨s, r, n', rfl, rfl, HI, hij, hjb, hmi, HW2⟩ := hrel
      by_cases hlt : s < r
      · as_aux_lemma =>
          obtain ⟨c, hc⟩ : ∃ c, c = (s + r) / 2 := ⟨_, rfl⟩
          have kc : ((s : Int) + (r : Int)) / 2 = (c : Int) := by omega
          have hc1 : s ≤ c := by omega
          have hc2 : c < r := by omega
          obtain ⟨x1, x2, x3⟩ := HX.out c (by omega) (by omega)
          obtain ⟨q, hq⟩ : ∃ q, q = mid + m - 1 - c := ⟨_, rfl⟩
          have hst := HI.out.step (ltZ_tr z) HT.out.l HT.out.r has hrm HX.out hc1 hc2
          rw [← hq] at x1 x2 hst
          have kq : IntKind.i64.wrap ((nn : Int) - 1 - (c : Int)) = (q : Int) := by have := HNn.out; rw [IntKind.wrap_i64]; omega
          have kq2 : (nn : Int) - 1 - (c : Int) = (q : Int) := by have := HNn.out; omega
          have hca := HB.out.cell n' HD.out (i := q) (by omega)
          have hcc := HB.out.cell n' HD.out (i := c) (by omega)
          have HC := Lib.hid (HB.out.call n' HD.out d[q]! d[c]!)
          rw [← HW2.out] at hca hcc HC
          have ca := hca.1
          have cc := hcc.1
          have kS : (c : Int) < (S : Int) := by omega
          have kA : (q : Int) < (S : Int) := by omega
          have hpl := HT.out.p c q (by omega) (by omega) x1 x2
          have st1 : ¬ cfF z d[q]! d[c]! < 0 → Hid (Sym (ltZ z) (fun t => d[t]!) (mid + m - 1) s0 r0 (c + 1) r) := fun hR => hst.2 (ask_ge z hpl hR)
          have st2 : cfF z d[q]! d[c]! < 0 → Hid (Sym (ltZ z) (fun t => d[t]!) (mid + m - 1) s0 r0 s c) := fun hR => hst.1 (ask_lt z hpl hR)
          have S1 := Lib.hid st1
          have S2 := Lib.hid st2
          have HP := Lib.hid (fun q => putRow_drewN encF w0 n' q blk 0 d)
          rw [← HW2.out] at HP
          clear hca hcc hpl hc st1 st2 hst x3 hq HSp HIH
          generalize cfF z d[q]! d[c]! = R at HC S1 S2
          generalize ((d[c]!).val : Int) = x at cc HC
          generalize ((d[q]!).val : Int) = y at ca HC
          by_cases hR : R < 0
          · have kr : decide (R < 0) = true := decide_eq_true hR
            have SS := S2.out hR
            clear S1 S2 hR
            go_wp2_with fail
            go_quiet (first | (go_at_call 26; exact HC.out _) | fail)
            go_wp2_with fail
            go_roundw
            case rel => exact ⟨s, c, n' + nq, rfl, rfl, SS, hc1, by omega, hmi, HP.out _⟩
            case measure => simp [intOf]; omega
          · have kr : decide (R < 0) = false := decide_eq_false hR
            have SS := S1.out hR
            clear S1 S2 hR
            go_wp2_with fail
            go_quiet (first | (go_at_call 26; exact HC.out _) | fail)
            go_wp2_with fail
            go_roundw
            case rel => exact ⟨c + 1, r, n' + nq, by go_num, rfl, SS, by omega, hjb, by omega, HP.out _⟩
            case measure => simp [intOf]; omega
      · have hji : r = s := by omega
        subst hji
        obtain ⟨f1, f2, f3, f4, f5, f6⟩ := HSp.out r HI.out
        obtain ⟨e, he⟩ : ∃ e, e = mid + m - r := ⟨_, rfl⟩
        rw [← he] at f3 f4 f5 f6
        have hme : mid + m = r + e := by omega
        obtain ⟨t1, t2, t3⟩ := HT.out.turn f1 f2 f3 f4 hme f5 f6
        have HT1 := Lib.hid t1
        have HT2 := Lib.hid t2
        have HT3 := Lib.hid t3
        have ke : IntKind.i64.wrap ((nn : Int) - (r : Int)) = (e : Int) := by have := HNn.out; rw [IntKind.wrap_i64]; omega
        have HME := Lib.hid hme
        clear HI HSp HX hlt f5 f6 t1 t2 t3 he hme hsr has hrm hij hjb hmi
        go_upto_region 39 with fail
        go_cut [185] (fun t wx => t = .bool (decide ((r : Int) < (m : Int)) && decide ((m : Int) < (e : Int))) ∧ wx = wr)
        case first =>
          as_aux_lemma =>
            clear HB HD HT HIH HT1 HT2 HT3
            by_cases c1 : (r : Int) < (m : Int)
            · by_cases c2 : (m : Int) < (e : Int)
              · have e1 : (decide ((r : Int) < (m : Int)) && decide ((m : Int) < (e : Int))) = true := by simp [c1, c2]
                have E1 := Lib.hid e1
                clear e1
                go_wp2_with fail
                go_meet
                case rel => exact ⟨by rw [E1.out], rfl⟩
              · have e1 : (decide ((r : Int) < (m : Int)) && decide ((m : Int) < (e : Int))) = false := by simp [c1, c2]
                have E1 := Lib.hid e1
                clear e1
                go_wp2_with fail
                go_meet
                case rel => exact ⟨by rw [E1.out], rfl⟩
            · have e1 : (decide ((r : Int) < (m : Int)) && decide ((m : Int) < (e : Int))) = false := by simp [c1]
              have E1 := Lib.hid e1
              clear e1
              go_wp2_with fail
              go_meet
              case rel => exact ⟨by rw [E1.out], rfl⟩
        case rest =>
          obtain ⟨rfl, rfl⟩ := hcut
          obtain ⟨wk, rfl⟩ : ∃ wk, wk = wc := ⟨_, rfl⟩
          go_upto_if 185 with fail
          go_cut [] (fun wx => ∃ (n1 : Nat) (dk : Array (Fin (N + 1))), Hid (dk.size = S) ∧ Hid ((fun t => dk[t]!) = rtt (fun t => d[t]!) r m e) ∧ Hid (wx = putRow encF (Sort.ahead w0 n1) blk 0 dk))
          case first =>
            as_aux_lemma =>
              by_cases hc : r < m ∧ m < e
              · have e1 : (decide ((r : Int) < (m : Int)) && decide ((m : Int) < (e : Int))) = true := by simp [hc.1, hc.2]
                rw [e1]
                have HC := sym_rotate HB.out n' d HD.out r m e (.func (.func 26) #[] #[.pointer (some ⟨gb, 0, none⟩)]) hc.1 hc.2 (by omega)
                rw [← HW2.out] at HC
                have HC2 := Lib.hid HC
                clear HC
                clear e1 hc HB HD HT HIH HT1 HT2 HT3 HW2
                go_wp2_with (first | (go_at_call 54; refine HC2.out.mono ?_; rintro e9 w9 ⟨rfl, n9, dk9, q1, q2, q3⟩; have HQ : Hid (∃ (n1 : Nat) (dk : Array (Fin (N + 1))), dk.size = S ∧ (fun t => dk[t]!) = rtt (fun t => d[t]!) r m e ∧ w9 = putRow encF (Sort.ahead w0 n1) blk 0 dk) := ⟨n9, dk9, q1, q2, q3⟩; clear q1 q2 q3) | fail)
                go_meet
                case rel => exact HQ.out
              · have e1 : (decide ((r : Int) < (m : Int)) && decide ((m : Int) < (e : Int))) = false := by simp; omega
                rw [e1]
                have HNo : Hid (∃ (n1 : Nat) (dk : Array (Fin (N + 1))), dk.size = S ∧ (fun t => dk[t]!) = rtt (fun t => d[t]!) r m e ∧ wk = putRow encF (Sort.ahead w0 n1) blk 0 dk) := ⟨n', d, HD.out, (rtt_none _ (by omega) f2 f3).symm, HW2.out⟩
                clear e1 hc HB HD HT HIH HT1 HT2 HT3 HW2
                go_wp2_with fail
                go_meet
                case rel => exact HNo.out
          case rest =>
            obtain ⟨n1, d1, HD1, HR1, HW1⟩ := hcut
            have HA1 : Hid (Two z (fun t => d1[t]!) a r mid) := by unfold Hid; rw [HR1.out]; exact HT1.out
            have HA2 : Hid (Two z (fun t => d1[t]!) mid e b) := by unfold Hid; rw [HR1.out]; exact HT2.out
            clear HT1 HT2 HT HD HW2
            have HT1 := HA1
            have HT2 := HA2
            clear HA1 HA2
            have HD := HD1
            clear HD1
            have HT := HT3
            obtain ⟨wb, rfl⟩ : ∃ wb, wb = wc := ⟨_, rfl⟩
            go_upto_region 41 with fail
            go_cut [199] (fun t wx => t = .bool (decide ((a : Int) < (r : Int)) && decide ((r : Int) < (mid : Int))) ∧ wx = wb)
            case first =>
              as_aux_lemma =>
                clear HB HD HT HIH HT1 HT2 HT3
                by_cases c1 : (a : Int) < (r : Int)
                · by_cases c2 : (r : Int) < (mid : Int)
                  · have e1 : (decide ((a : Int) < (r : Int)) && decide ((r : Int) < (mid : Int))) = true := by simp [c1, c2]
                    have E1 := Lib.hid e1
                    clear e1
                    go_wp2_with fail
                    go_meet
                    case rel => exact ⟨by rw [E1.out], rfl⟩
                  · have e1 : (decide ((a : Int) < (r : Int)) && decide ((r : Int) < (mid : Int))) = false := by simp [c1, c2]
                    have E1 := Lib.hid e1
                    clear e1
                    go_wp2_with fail
                    go_meet
                    case rel => exact ⟨by rw [E1.out], rfl⟩
                · have e1 : (decide ((a : Int) < (r : Int)) && decide ((r : Int) < (mid : Int))) = false := by simp [c1]
                  have E1 := Lib.hid e1
                  clear e1
                  go_wp2_with fail
                  go_meet
                  case rel => exact ⟨by rw [E1.out], rfl⟩
            case rest =>
              obtain ⟨rfl, rfl⟩ := hcut
              obtain ⟨wk, rfl⟩ : ∃ wk, wk = wc := ⟨_, rfl⟩
              go_upto_if 199 with fail
              go_cut [] (fun wx => ∃ (n2 : Nat) (dk : Array (Fin (N + 1))), Hid (dk.size = S) ∧ Hid (Mrg z (fun t => d1[t]!) (fun t => dk[t]!) a mid) ∧ Hid (wx = putRow encF (Sort.ahead w0 n2) blk 0 dk))
              case first =>
                as_aux_lemma =>
                  by_cases hc : a < r ∧ r < mid
                  · have e1 : (decide ((a : Int) < (r : Int)) && decide ((r : Int) < (mid : Int))) = true := by simp [hc.1, hc.2]
                    rw [e1]
                    have HC := HIH.out n1 d1 HD.out a r mid (by omega) hc.1 hc.2 (by omega) HT1.out
                    rw [← HW1.out] at HC
                    have HC2 := Lib.hid HC
                    clear HC
                    clear e1 hc HB HD HT HIH HT1 HT2 HT3 HW1 HR1
                    go_wp2_with (first | (go_at_call 44; refine HC2.out.mono ?_; rintro e9 w9 ⟨rfl, n9, dk9, q1, q2, q3⟩; have HQ : Hid (∃ (n2 : Nat) (dk : Array (Fin (N + 1))), dk.size = S ∧ Mrg z (fun t => d1[t]!) (fun t => dk[t]!) a mid ∧ w9 = putRow encF (Sort.ahead w0 n2) blk 0 dk) := ⟨n9, dk9, q1, q2, q3⟩; clear q1 q2 q3) | fail)
                    go_meet
                    case rel => exact HQ.out
                  · have e1 : (decide ((a : Int) < (r : Int)) && decide ((r : Int) < (mid : Int))) = false := by simp; omega
                    rw [e1]
                    have HNo : Hid (∃ (n2 : Nat) (dk : Array (Fin (N + 1))), dk.size = S ∧ Mrg z (fun t => d1[t]!) (fun t => dk[t]!) a mid ∧ wk = putRow encF (Sort.ahead w0 n2) blk 0 dk) := ⟨n1, d1, HD.out, HT1.out.skip (by omega), HW1.out⟩
                    clear e1 hc HB HD HT HIH HT1 HT2 HT3 HW1 HR1
                    go_wp2_with fail
                    go_meet
                    case rel => exact HNo.out
              case rest =>
                obtain ⟨n2, d2, HD2, HM1, HW2⟩ := hcut
                have HA2 : Hid (Two z (fun t => d2[t]!) mid e b) := HT2.out.keep (fun x x1 x2 => HM1.out.out x (.inr x1)) (by have := HME.out; omega) f4
                clear HT1 HT2 HD HW1
                have HT2 := HA2
                have HT1 := HA2
                clear HA2
                have HD := HD2
                clear HD2
                obtain ⟨wb, rfl⟩ : ∃ wb, wb = wc := ⟨_, rfl⟩
                have HFin : Hid (∀ (n3 : Nat) (d3 : Array (Fin (N + 1))) (w3 : World), d3.size = S → Mrg z (fun t => d2[t]!) (fun t => d3[t]!) mid b → w3 = putRow encF (Sort.ahead w0 n3) blk 0 d3 → MgW z w0 blk S d a b w3) := fun n3 d3 w3 h1 h2 h3 => ⟨n3, d3, h1, mrg_join f1 f2 f3 f4 (by have := HME.out; omega) HT3.out (by rw [← HR1.out]; exact HM1.out) h2, h3⟩
                go_upto_region 43 with fail
                go_cut [213] (fun t wx => t = .bool (decide ((mid : Int) < (e : Int)) && decide ((e : Int) < (b : Int))) ∧ wx = wb)
                case first =>
                  as_aux_lemma =>
                    clear HB HD HT HIH HT1 HT2 HT3
                    by_cases c1 : (mid : Int) < (e : Int)
                    · by_cases c2 : (e : Int) < (b : Int)
                      · have e1 : (decide ((mid : Int) < (e : Int)) && decide ((e : Int) < (b : Int))) = true := by simp [c1, c2]
                        have E1 := Lib.hid e1
                        clear e1
                        go_wp2_with fail
                        go_meet
                        case rel => exact ⟨by rw [E1.out], rfl⟩
                      · have e1 : (decide ((mid : Int) < (e : Int)) && decide ((e : Int) < (b : Int))) = false := by simp [c1, c2]
                        have E1 := Lib.hid e1
                        clear e1
                        go_wp2_with fail
                        go_meet
                        case rel => exact ⟨by rw [E1.out], rfl⟩
                    · have e1 : (decide ((mid : Int) < (e : Int)) && decide ((e : Int) < (b : Int))) = false := by simp [c1]
                      have E1 := Lib.hid e1
                      clear e1
                      go_wp2_with fail
                      go_meet
                      case rel => exact ⟨by rw [E1.out], rfl⟩
                case rest =>
                  obtain ⟨rfl, rfl⟩ := hcut
                  obtain ⟨wk, rfl⟩ : ∃ wk, wk = wc := ⟨_, rfl⟩
                  by_cases hc : mid < e ∧ e < b
                  · have e1 : (decide ((mid : Int) < (e : Int)) && decide ((e : Int) < (b : Int))) = true := by simp [hc.1, hc.2]
                    rw [e1]
                    have HC := HIH.out n2 d2 HD.out mid e b (by omega) hc.1 hc.2 hb HT2.out
                    rw [← HW2.out] at HC
                    have HC2 := Lib.hid HC
                    clear HC e1 hc HB HD HT HIH HT1 HT2 HT3 HW2 HR1 HM1
                    go_wp2_with (first | (go_at_call 44; refine HC2.out.mono ?_; rintro e9 w9 ⟨rfl, n9, dk9, q1, q2, q3⟩; have HQ : Hid (MgW z w0 blk S d a b w9) := HFin.out _ _ _ q1 q2 q3; clear q1 q2 q3) | fail)
                    go_end0
                    exact ⟨rfl, HQ.out⟩
                  · have e1 : (decide ((mid : Int) < (e : Int)) && decide ((e : Int) < (b : Int))) = false := by simp; omega
                    rw [e1]
                    have HQ : Hid (MgW z w0 blk S d a b wk) := HFin.out n2 d2 _ HD.out (HT2.out.skip (by omega)) HW2.out
                    clear e1 hc HB HD HT HIH HT1 HT2 HT3 HW2 HR1 HM1 HFin
                    go_wp2_with fail
                    go_end0
                    exact ⟨rfl, HQ.out⟩
end Go.Proofs.YtpbfbejckhbijaaDoor
