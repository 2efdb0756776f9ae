/- arrange, sorted. -/
import Derived.Test.YtablaacddbkeiaaGreatDoorLbD
import Derived.Sort.Grow
namespace Go.Proofs.YtablaacddbkeiaaGreatDoor
open Go.RowKit

theorem fin_size (m : Nat) (l : List Nat) : (finL m l).toArray.size = l.length := by simp [finL]
theorem own_holds {base : Nat} {w : World} {g cap m : Nat} {l : List Nat} (hl : ∀ a ∈ l, a < m + 1) (h : Own base w (.slice (some ⟨g, 0, none⟩) l.length cap) l) : Go.Sort.Holds (encF (m := m)) w g 0 (finL m l).toArray := by
  intro j hj
  rw [fin_size] at hj
  have h1 := World.ownsRow.cellAt h j (by omega)
  have hv := finL_get hl j hj
  rcases h.2 with ⟨h0, _⟩ | ⟨g', cap', cur, h0, hg, hh, r1, r2, r3, r4⟩
  · cases h0
  · injection h0 with e1 e2 e3
    injection e1 with e1
    injection e1 with e1
    subst e1
    refine ⟨?_, Lib.frozen_of_heap hh _⟩
    rw [Nat.zero_add, h1, List.getElem?_map, List.getElem?_eq_getElem hj, ← hv]; rfl
theorem put_block {m : Nat} (w : World) (g : Nat) (d : Array (Fin (m + 1))) (n k : Nat) (h : k ≠ g) : ((Go.Sort.putRow encF w g 0 d).drewN n).heap[k]? = w.heap[k]? := by
  show (w.heap.modify g _)[k]? = _
  rw [Array.getElem?_modify, if_neg (fun e => h e.symm)]
theorem put_below {m : Nat} {base g : Nat} (w : World) (d : Array (Fin (m + 1))) (n : Nat) (h : base ≤ g) : Below base w ((Go.Sort.putRow encF w g 0 d).drewN n) :=
  ⟨rfl, rfl, rfl, by simp, fun k hk => put_block w g d n k (by omega)⟩
theorem sw_cell {m : Nat} (w : World) (g k : Nat) (os : Array Obj) (d : Array (Fin (m + 1))) (a : Addr) (h : a.block ≠ g) (h2 : a.block < w.heap.size) : (sortWorld encF w g 0 k d os).cell? a = w.cell? a := by
  unfold sortWorld
  rw [Go.Sort.cell?_grow _ _ _ (by simpa using h2), Go.Sort.cell?_putRow_other _ _ _ _ _ _ (.inl h)]
  rfl

/-- What arrange leaves. -/
def ArP (up : List UInt8) (p : Nat → Bool) (v : Value) (base : Nat) (w : World) (e : Ending) (w' : World) : Prop :=
  e = .returned (.tuple #[]) ∧ RdN w'.heap.size w' v (srt up p) ∧ Below base w w'

set_option maxRecDepth 100000 in
set_option maxHeartbeats 2000000 in
theorem arrange_some (up : List UInt8) (l : List Nat) (p : Nat → Bool) (m base g cap b n : Nat) (w : World) (hm : up.length = m + 1) (hn : up.length = n) (hn8 : n ≤ 8) (ho : Ord (le up) up.length)
    (hnd : l.Nodup) (hp : ∀ a, a ∈ l ↔ a < up.length ∧ p a = true) (h8 : l.length ≤ 8) (hrow : Own base w (.slice (some ⟨g, 0, none⟩) l.length cap) l) (hgb : g < b) (hb : b < w.heap.size) (hL : Lvs up b w) :
    Calls Tryz.prog 68 #[.slice (some ⟨g, 0, none⟩) l.length cap, .iface 89 (.slice (some ⟨b, 0, none⟩) n n)] w (ArP up p (.slice (some ⟨g, 0, none⟩) l.length cap) base w) := by
  have hl : ∀ a ∈ l, a < m + 1 := fun a ha => by rw [← hm]; exact ((hp a).1 ha).1
  have hbase : base ≤ g := by
    obtain ⟨_, h0⟩ := hrow
    rcases h0 with ⟨h0, _⟩ | ⟨g', cap', cur, h0, hg, hh, r1, r2, r3, r4⟩
    · cases h0
    · injection h0 with e1 e2 e3
      injection e1 with e1
      injection e1 with e1
      omega
  have hcap : l.length ≤ cap ∧ cap ≤ maxLen := by
    obtain ⟨_, h0⟩ := hrow
    rcases h0 with ⟨h0, _⟩ | ⟨g', cap', cur, h0, hg, hh, r1, r2, r3, r4⟩
    · cases h0
    · injection h0 with e1 e2 e3
      subst e3
      exact ⟨r1, r2⟩
  have e0 : (w.alloc (.cells #[.iface 89 (.slice (some ⟨b, 0, none⟩) n n)] 103)).heap.size = w.heap.size + 1 := by simp
  have eg : ∀ args w, (callFunc 84 args).run Tryz.prog w = .ok (.enter 84 args) w := enters_of Tryz.func84 (by kernel_rfl) rfl
  have hH := own_holds hl (World.ownsRow.alloc hrow (.cells #[.iface 89 (.slice (some ⟨b, 0, none⟩) n n)] 103))
  have hx0 : (w.alloc (.cells #[.iface 89 (.slice (some ⟨b, 0, none⟩) n n)] 103)).cell? ⟨w.heap.size, 0, none⟩ = some (.iface 89 (.slice (some ⟨b, 0, none⟩) n n)) := (cell_of_block (heap_new w _) 0).trans rfl
  have hcmp : CmpReads Tryz.prog 84 #[.pointer (some ⟨w.heap.size, 0, none⟩)] (encF (m := m)) (cfF up) g 0 (finL m l).toArray.size (w.alloc (.cells #[.iface 89 (.slice (some ⟨b, 0, none⟩) n n)] 103)) := by
    intro k os dk hdk x y
    refine (cmp_any up n b w.heap.size x.val y.val _ (fun j hj => ?_) ?_ (by rw [hm]; exact x.isLt) (by rw [hm]; exact y.isLt) hn hn8)
    · rw [sw_cell _ _ _ _ _ _ (by show b ≠ g; omega) (by rw [e0]; show b < _; omega)]
      exact ((bel1 w _).cell (p := ⟨b, j, none⟩) hb).trans (hL j hj)
    · rw [sw_cell _ _ _ _ _ _ (by show w.heap.size ≠ g; omega) (by rw [e0]; show w.heap.size < _; omega)]
      exact hx0
  have hcon := Tryz.slices_SortFunc_small_sorted (encF (m := m)) (fun _ => rfl) (cfF up) (swo_cf up) 84 #[.pointer (some ⟨w.heap.size, 0, none⟩)] g 0 cap (finL m l).toArray _ eg hcmp hH (by rw [fin_size]; omega) hlen
  have hfin : ∀ (d' : Array (Fin (m + 1))) (nn : Nat), Go.Sort.PermIn 0 (finL m l).toArray.size (finL m l).toArray d' → Go.Sort.SortedIn (ltOf (cfF up)) 0 (finL m l).toArray.size d' →
      ArP up p (.slice (some ⟨g, 0, none⟩) l.length cap) base w (.returned (.tuple #[])) ((Go.Sort.putRow encF (w.alloc (.cells #[.iface 89 (.slice (some ⟨b, 0, none⟩) n n)] 103)) g 0 d').drewN nn) := by
    intro d' nn h1 h2
    have hs := sorted_is up l hl hnd p ho hp d' h1 h2
    have hsz : d'.size = (finL m l).toArray.size := h1.1
    have hlen2 : (srt up p).length = l.length := by rw [← hs, List.length_map, Array.length_toList, hsz, fin_size]
    refine ⟨rfl, ⟨some ⟨g, 0, none⟩, cap, by rw [hlen2], by rw [hlen2]; exact hcap.1, by have := hcap.2; unfold maxLen at this; omega, fun _ => ⟨g, 0, rfl, ?_, fun j hj => ?_⟩⟩, (bel1 w _).mono (by omega) |>.trans (put_below _ d' nn hbase)⟩
    · show g < ((Go.Sort.putRow encF (w.alloc _) g 0 d').drewN nn).heap.size
      have : ((Go.Sort.putRow encF (w.alloc (.cells #[.iface 89 (.slice (some ⟨b, 0, none⟩) n n)] 103)) g 0 d').drewN nn).heap.size = w.heap.size + 1 := by simp
      rw [this]; omega
    · rw [cell_drewN, Go.Sort.cell?_putRow encF _ g 0 _ d' hH hsz j (by rw [hsz, fin_size, ← hlen2]; exact hj)]
      have hj' : j < d'.size := by rw [hsz, fin_size, ← hlen2]; exact hj
      have h3 : (srt up p)[j] = (d'[j]).val := by simp [← hs]
      rw [getElem!_pos d' j hj', h3]
  rw [fin_size] at hcon
  have HF := Lib.hid hfin
  have HC := Lib.hid hcon
  clear hfin hcon hcmp hH hx0 hL hrow hp hnd ho hl hcap hbase
  go_enter Tryz.func68, Tryz.ntmps68
  go_wp2_with fail
  refine HC.out.mono ?_
  rintro e w' ⟨rfl, d', nn, h1, h2, rfl⟩
  have HQ := Lib.hid (HF.out d' nn (by rw [fin_size]; exact h1) (by rw [fin_size]; exact h2))
  clear h1 h2
  go_wp2_with fail
  go_end0
  exact HQ.out
set_option maxRecDepth 100000 in
set_option maxHeartbeats 2000000 in
theorem arrange_none (up : List UInt8) (p : Nat → Bool) (b n : Nat) (w : World) (hp : srt up p = []) :
    Calls Tryz.prog 68 #[.slice none 0 0, .iface 89 (.slice (some ⟨b, 0, none⟩) n n)] w (ArP up p (.slice none 0 0) w.heap.size w) := by
  have HP := Lib.hid hp
  clear hp
  go_enter Tryz.func68, Tryz.ntmps68
  go_wp2_with (go_at_call 83; refine (sort_none _ _ _ _).mono ?_; rintro e w' ⟨rfl, rfl⟩)
  go_end0
  exact ⟨rfl, by rw [HP.out]; exact ⟨none, 0, rfl, Nat.le_refl _, by omega, fun h => absurd rfl h⟩, bel1 _ _⟩

/-- A sorted list that a call returns. -/
def SoP (up : List UInt8) (p : Nat → Bool) (w : World) (e : Ending) (w' : World) : Prop :=
  ∃ a cap, e = .returned (.slice a (srt up p).length cap) ∧ RdN w'.heap.size w' (.slice a (srt up p).length cap) (srt up p) ∧ Below w.heap.size w w'

set_option maxRecDepth 100000 in
set_option maxHeartbeats 2000000 in
theorem sorted_any (v : Value) (ns : List ByteArray) (up : List UInt8) (s : Nat) (p : Nat → Bool) (w : World) (hv : RdL w.heap.size w v ns up) (hg : Good ns up) (hs : s < 256) (hp : ∀ a, a ∈ lbl s ↔ a < up.length ∧ p a = true) :
    Calls Tryz.prog 39 #[v, .int .u8 s] w (SoP up p w) := by
  have HL := Lib.hid hv
  obtain ⟨⟨vn, vu, rfl, hS, hB⟩, hsz⟩ := hv
  obtain ⟨q1, cap, rfl, hc, hc2, h⟩ := hS
  obtain ⟨q, cap', rfl, hc', hc2', h'⟩ := hB
  clear h h' hsz
  have HI := Lib.hid (Bx.new HL.out)
  have HG := Lib.hid hg
  have hu0 : 0 < up.length := by have := hg.pos; have := hg.len; omega
  have hu8 : up.length ≤ 8 := by have := hg.most; have := hg.len; omega
  clear hg
  have HP := Lib.hid hp
  clear hp
  go_enter Tryz.func39, Tryz.ntmps39
  go_wp2_with fail
  refine (labels_any s _ hs).mono ?_
  rintro e w1 ⟨u, rfl, hown, hb1⟩
  have HI1 := Lib.hid (HI.out.next hb1)
  clear HI hb1
  have hx0 := HI1.out.x0
  have hx1 := HI1.out.x1
  obtain ⟨ua, uc, rfl⟩ : ∃ ua uc, u = .slice ua (lbl s).length uc := by
    rcases hown.2 with ⟨h0, h1⟩ | ⟨g', cap', cur, h0, hg, hh, r1, r2, r3, r4⟩
    · exact ⟨none, 0, by rw [h0, h1]⟩
    · exact ⟨_, _, h0⟩
  have HW := Lib.hid hown
  clear hown
  go_wp2_with fail
  refine (levelsOf_any _ ns up _ HI1.out.rd HG.out).mono ?_
  rintro e w2 ⟨b, rfl, hb0, hb2, hlv, hbl⟩
  have HI2 := Lib.hid (HI1.out.next hbl)
  have hrow := own_below HW.out hbl
  have hwlt := World.ownsRow.lt HW.out
  have hw1 := hbl.size
  clear hx0 hx1 HW
  have HR : Hid (Calls Tryz.prog 68 #[.slice ua (lbl s).length uc, .iface 89 (.slice (some ⟨b, 0, none⟩) up.length up.length)] w2 (ArP up p (.slice ua (lbl s).length uc) w.heap.size w2)) := by
    rcases hrow.2 with ⟨h0, h1⟩ | ⟨g', cap', cur, h0, hg, hh, r1, r2, r3, r4⟩
    · injection h0 with e1 e2 e3
      have hnil : lbl s = [] := List.length_eq_zero_iff.1 h1
      have hsr : srt up p = [] := by
        refine List.eq_nil_iff_forall_not_mem.2 fun a ha => ?_
        have := (HP.out a).2 ((mem_srt HG.out.ords.1).1 ha)
        rw [hnil] at this; simp at this
      subst e1 e3
      rw [h1]
      refine (arrange_none up p b _ w2 hsr).mono fun e w' h => ⟨h.1, h.2.1, h.2.2.mono ?_⟩
      have := HI2.out.bel.size
      exact this
    · injection h0 with e1 e2 e3
      subst e1
      have hlt := hwlt g' rfl
      obtain ⟨m, hm⟩ : ∃ m, up.length = m + 1 := ⟨up.length - 1, by omega⟩
      refine (arrange_some up (lbl s) p m _ g' uc b up.length w2 hm rfl hu8 HG.out.ords.1 (lbl_nodup s) HP.out (pop_le s) hrow (by omega) hb2 hlv).mono fun e w' h => ⟨h.1, h.2.1, h.2.2.mono ?_⟩
      simp
  clear hrow hwlt hlv
  go_wp2_with fail
  refine HR.out.mono ?_
  rintro e w3 ⟨rfl, hrd, hbn⟩
  have HRd := Lib.hid hrd
  have HB := Lib.hid (HI2.out.bel.trans hbn)
  clear hbn
  obtain ⟨a3, c3, h3, _⟩ := hrd
  injection h3 with e1 e2 e3
  clear e1 e3
  have HE := Lib.hid e2
  clear e2
  go_wp2_with fail
  go_ret
  exact ⟨ua, uc, by rw [← HE.out]; rfl, by rw [← HE.out]; exact HRd.out, HB.out⟩
end Go.Proofs.YtablaacddbkeiaaGreatDoor
