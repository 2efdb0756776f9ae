/- read: the walk. -/
import Derived.Test.YtpbfbejckhbijaaGreatDoorPrG
import Derived.Deep.DeepCutAuto
namespace Go.Proofs.YtpbfbejckhbijaaGreatDoor
open Go.RowKit

theorem flat12_snoc (vals : List (Value × Value)) (a b : Value) : flat12 (vals ++ [(a, b)]) = flat12 vals ++ [a, b] := by simp [flat12]
/-- The list grows by what the box holds. -/
theorem RdS.more {w W W2 : World} {gb b : Nat} {S : Rst} {vk vr vl v' : Value} {vals : List (Value × Value)} (h : RdS w gb S vk vr vl b vals W)
    (hg : (W.alloc (.cells #[vk, vr] 72)).grownBy W2 vl.ownBlock) (ho : W2.ownsRow (gb + 2) 72 2 v' (S.d.length + 1) (flat12 vals ++ [vk, vr])) :
    Below gb w W2 ∧ W2.heap[gb]? = some (.cells #[vk, vr] 72 (0, 0)) ∧ (∀ x, x < gb + 2 → W2.heap[x]? = W.heap[x]?) ∧ W.heap.size ≤ W2.heap.size ∧
      ∀ i (h1 : i < (vals ++ [(vk, vr)]).length) (h2 : i < (S.d ++ [(S.k, S.r)]).length), RwB W2 W2.heap.size ((vals ++ [(vk, vr)])[i]).1 ((S.d ++ [(S.k, S.r)])[i]).1 ∧ RwB W2 W2.heap.size ((vals ++ [(vk, vr)])[i]).2 ((S.d ++ [(S.k, S.r)])[i]).2 := by
  have _ := ho
  have hbs := h.hbs
  have hhb := h.hb
  have hal : ∀ g, g < W.heap.size → (W.alloc (.cells #[vk, vr] 72)).heap[g]? = W.heap[g]? := fun g hgl => (bel1 W _).block g hgl
  have hsz : W.heap.size + 1 ≤ W2.heap.size := by have := hg.size; simpa using this
  have k1 : ∀ g, g < W.heap.size → vl.ownBlock ≠ some g → W2.heap[g]? = W.heap[g]? := fun g hgl hne => (hg.block g (by simp; omega) fun e => hne e.symm).trans (hal g hgl)
  have hvb : ∀ g, vl.ownBlock = some g → gb + 2 ≤ g := fun g e => by obtain ⟨_, _, hb, _⟩ := own_blk h.l e; exact hb
  have kr : ∀ (g : Nat) (cur : Array Value), W.heap[g]? = some (.cells cur 21 (0, 0)) → W2.heap[g]? = W.heap[g]? := fun g cur hc => by
    refine k1 g (Array.getElem?_eq_some_iff.1 hc).1 fun e => ?_
    obtain ⟨cur2, hc2, _, _⟩ := own_blk h.l e
    rw [hc] at hc2
    cases hc2
  have hone : ∀ v l, RwR W b v l → RwB W2 W2.heap.size v l := fun v l hv => ⟨own_move hv fun g e => by
      obtain ⟨cur, hc, _, _⟩ := own_blk hv e
      exact ⟨kr g cur hc, Nat.zero_le _⟩, fun g e => by obtain ⟨_, _, _, hl2⟩ := own_blk hv e; omega⟩
  refine ⟨(h.bel.alloc (by omega) _).grown hg (by simp; omega) fun j e => by have := hvb j e; omega, (k1 gb (by omega) fun e => by have := hvb gb e; omega).trans h.box, fun x hx => k1 x (by omega) fun e => by have := hvb x e; omega, by omega, fun i h1 h2 => ?_⟩
  have hln := h.len
  by_cases hi : i < vals.length
  · have hd := h.done_move (b' := W2.heap.size) (by omega) (fun g cur _ hc => kr g cur hc) i hi (by omega)
    rw [List.getElem_append_left hi, List.getElem_append_left (by omega)]
    exact hd
  · have hi2 : i = vals.length := by simp at h1; omega
    subst hi2
    have e1 : (vals ++ [(vk, vr)])[vals.length]'h1 = (vk, vr) := by simp
    have e2 : (S.d ++ [(S.k, S.r)])[vals.length]'h2 = (S.k, S.r) := by simp [hln]
    rw [e1, e2]
    exact ⟨hone _ _ h.k, hone _ _ h.r⟩
theorem RdS.turn {w W W2 : World} {gb b : Nat} {S : Rst} {vk vr vl v' : Value} {vals : List (Value × Value)} (h : RdS w gb S vk vr vl b vals W)
    (hg : (W.alloc (.cells #[vk, vr] 72)).grownBy W2 vl.ownBlock) (ho : W2.ownsRow (gb + 2) 72 2 v' (S.d.length + 1) (flat12 vals ++ [vk, vr])) :
    RdS w gb ⟨S.d ++ [(S.k, S.r)], [], []⟩ (.slice none 0 0) (.slice none 0 0) v' W2.heap.size (vals ++ [(vk, vr)]) ((W2.setCell ⟨gb, 0, none⟩ (.slice none 0 0)).setCell ⟨gb, 1, none⟩ (.slice none 0 0)) ∧ (∀ x, x < gb + 2 → x ≠ gb → ((W2.setCell ⟨gb, 0, none⟩ (.slice none 0 0)).setCell ⟨gb, 1, none⟩ (.slice none 0 0)).heap[x]? = W.heap[x]?) ∧ W2.heap[gb]? = some (.cells #[vk, vr] 72 (0, 0)) := by
  obtain ⟨m1, m2, m3, m4, m5⟩ := h.more hg ho
  have hhb := h.hb
  have hbs := h.hbs
  have o1 : ∀ x, x ≠ gb → ((W2.setCell ⟨gb, 0, none⟩ (.slice none 0 0)).setCell ⟨gb, 1, none⟩ (.slice none 0 0)).heap[x]? = W2.heap[x]? := fun x hx => (set_heap_other _ hx).trans (set_heap_other _ hx)
  refine ⟨⟨(m1.setCell (p := ⟨gb, 0, none⟩) (Nat.le_refl _) _).setCell (p := ⟨gb, 1, none⟩) (Nat.le_refl _) _, by omega, by simp, ?_, World.ownsRow_nil _ _ _ _, World.ownsRow_nil _ _ _ _, fun g e => (by cases e), ?_, by simp [h.len], ?_⟩, fun x hx hne => (o1 x hne).trans (m3 x hx), m2⟩
  · have h1 := set_heap (.slice none 0 0) (i := 0) m2
    have h2 := set_heap (.slice none 0 0) (i := 1) h1
    rw [h2]; rfl
  · rw [flat12_snoc, show (⟨S.d ++ [(S.k, S.r)], [], []⟩ : Rst).d.length = S.d.length + 1 by simp]
    exact own_move ho fun g e => by
      obtain ⟨_, _, hb2, _⟩ := own_blk ho e
      exact ⟨o1 g (by omega), hb2⟩
  · intro i h1 h2
    have key : ∀ v l, RwB W2 W2.heap.size v l → RwB ((W2.setCell ⟨gb, 0, none⟩ (.slice none 0 0)).setCell ⟨gb, 1, none⟩ (.slice none 0 0)) W2.heap.size v l := fun v l hv => ⟨own_move hv.1 fun g e => by
        obtain ⟨cur, hc, _, _⟩ := own_blk hv.1 e
        refine ⟨o1 g fun e2 => ?_, Nat.zero_le _⟩
        subst e2
        rw [m2] at hc
        exact absurd hc (by simp), hv.2⟩
    exact ⟨key _ _ (m5 i h1 h2).1, key _ _ (m5 i h1 h2).2⟩
/-- The ways that have been read: a slice of pairs of rows of letters. -/
def FitW (W : World) (v : Value) (L : List (List Int × List Int)) : Prop := ∃ vals : List (Value × Value), W.ownsRow 0 72 2 v L.length (flat12 vals) ∧ vals.length = L.length ∧
  ∀ i (h1 : i < vals.length) (h2 : i < L.length), RwR W 0 (vals[i]).1 (L[i]).1 ∧ RwR W 0 (vals[i]).2 (L[i]).2
theorem infoR12 : (Tryz.prog.info? 21).map (fun i => (i.zero, i.size, i.bytes)) = some (some (.int .i32 0), 1, 4) := by kernel_rfl
theorem infoF12 : (Tryz.prog.info? 72).map (fun i => (i.zero, i.size, i.bytes)) = some (some (.agg #[.slice none 0 0, .slice none 0 0]), 2, 48) := by kernel_rfl
theorem wpList_appR {w0 : World} {ops : Array Oper} {rest : List Oper} {o : Oper} {a : Act} {Q : Exit → Act → World → Prop} (hgd : Region.wanted o (yielded ops a.tmps) = true) (s x : Operand)
    (ho : o.op = .call { callee := .builtin .append, args := #[s, x], argTypes := #[70, 70] }) (B : Nat) (v : Value) (l : List Int) (hs : a.eval s = v) (hown : RwR w0 B v l) (m : Int)
    (hx : a.eval x = .slice (some ⟨w0.heap.size, 0, none⟩) 1 1) (hl : l.length + 1 ≤ 1000000) (hB : B ≤ w0.heap.size)
    (h : ∀ v' w', RwR w' B v' (l ++ [m]) → (w0.alloc (.cells #[.int .i32 m] 21)).grownBy w' v.ownBlock → (v'.ownBlock = v.ownBlock ∨ v'.ownBlock = some (w0.heap.size + 1)) → wpList Tryz.prog ops Q rest (a.put o.dst v') w') : wpList Tryz.prog ops Q (o :: rest) a (w0.alloc (.cells #[.int .i32 m] 21)) := by
  obtain ⟨i0, hi, hz0, hz1, hz2⟩ := info_parts infoR12
  exact wpList_app1a Tryz.underlying70 hi hz0 hz1 hz2 rfl (by decide) (by decide) hgd s x ho B v l.length _ hs hown [.int .i32 m] rfl (by simp [Value.oneCell']) hx hl hB fun v' w' h1 h2 h3 => h v' w' (by unfold RwR; rw [List.length_append, List.map_append]; exact h1) h2 h3
theorem wpList_appF {w0 : World} {ops : Array Oper} {rest : List Oper} {o : Oper} {a : Act} {Q : Exit → Act → World → Prop} (hgd : Region.wanted o (yielded ops a.tmps) = true) (s x : Operand)
    (ho : o.op = .call { callee := .builtin .append, args := #[s, x], argTypes := #[68, 68] }) (B : Nat) (v : Value) (n : Nat) (xs : List Value) (hs : a.eval s = v) (hown : w0.ownsRow B 72 2 v n xs) (vk vr : Value) (h1 : vk.oneCell' = true) (h2 : vr.oneCell' = true)
    (hx : a.eval x = .slice (some ⟨w0.heap.size, 0, none⟩) 1 1) (hl : n + 1 ≤ 1000000) (hB : B ≤ w0.heap.size)
    (h : ∀ v' w', w'.ownsRow B 72 2 v' (n + 1) (xs ++ [vk, vr]) → (w0.alloc (.cells #[vk, vr] 72)).grownBy w' v.ownBlock → wpList Tryz.prog ops Q rest (a.put o.dst v') w') : wpList Tryz.prog ops Q (o :: rest) a (w0.alloc (.cells #[vk, vr] 72)) := by
  obtain ⟨i0, hi, hz0, hz1, hz2⟩ := info_parts infoF12
  exact wpList_app1a Tryz.underlying68 hi hz0 hz1 hz2 rfl (by decide) (by decide) hgd s x ho B v n xs hs hown [vk, vr] rfl (by intro u hu; simp at hu; rcases hu with rfl | rfl <;> assumption) hx hl hB fun v' w' g1 g2 _ => h v' w' g1 g2
theorem RdS.iter {w W : World} {gb b pos : Nat} {S : Rst} {vk vr vl : Value} {vals : List (Value × Value)} {s : ByteArray} (h : RdS w gb S vk vr vl b vals W) (hit : W.heap[gb + 1]? = some (.stringIter s pos)) (p : Nat) : RdS w gb S vk vr vl b vals (W.iterAt (gb + 1) s p) := by
  have hsz : (W.iterAt (gb + 1) s p).heap.size = W.heap.size := Lib.iterAt_size _ _ _ _
  have ho : ∀ x, x ≠ gb + 1 → (W.iterAt (gb + 1) s p).heap[x]? = W.heap[x]? := fun x hx => Lib.iterAt_other W (gb + 1) x s p hx
  have hhb := h.hb
  refine ⟨Lib.below_iterAt h.bel (by omega) s p, h.hb, by rw [hsz]; exact h.hbs, (ho gb (by omega)).trans h.box, own_move h.k fun g e => ?_, own_move h.r fun g e => ?_, h.ne, own_move h.l fun g e => ?_, h.len, h.done_move (Nat.le_refl _) fun g cur _ hc => ?_⟩
  · obtain ⟨_, _, hb2, _⟩ := own_blk h.k e
    exact ⟨ho g (by omega), hb2⟩
  · obtain ⟨_, _, hb2, _⟩ := own_blk h.r e
    exact ⟨ho g (by omega), hb2⟩
  · obtain ⟨_, _, hb2, _⟩ := own_blk h.l e
    exact ⟨ho g (by omega), hb2⟩
  · refine ho g fun e => ?_
    subst e
    rw [hit] at hc
    exact absurd hc (by simp)
set_option maxRecDepth 100000 in
set_option maxHeartbeats 16000000 in
theorem read_any (s : ByteArray) (hs : ∀ i (h : i < s.size), (s[i]'h).toNat < 128) (hsz : s.size ≤ 1000) (w : World) :
    Calls Tryz.prog 35 #[.string s] w fun e w' => ∃ v, e = .returned v ∧ FitW w' v (rdF (bys12 s)) ∧ Below w.heap.size w w' := by
  have HInit : Hid (RdS w w.heap.size ⟨[], [], []⟩ (.slice none 0 0) (.slice none 0 0) (.slice none 0 0) (w.heap.size + 2) [] ((w.alloc (.cells #[.slice none 0 0, .slice none 0 0] 72)).iter s 0) ∧ ((w.alloc (.cells #[.slice none 0 0, .slice none 0 0] 72)).iter s 0).heap[w.heap.size + 1]? = some (.stringIter s 0)) := by
    have hi := World.iter_heap (w.alloc (.cells #[.slice none 0 0, .slice none 0 0] 72)) s 0
    have e1 : (w.alloc (.cells #[.slice none 0 0, .slice none 0 0] 72)).heap.size = w.heap.size + 1 := by simp
    rw [e1] at hi
    have hb : Below w.heap.size w ((w.alloc (.cells #[.slice none 0 0, .slice none 0 0] 72)).iter s 0) := ((Below.refl _ w).alloc (Nat.le_refl _) _).alloc (by simp) _
    refine ⟨⟨hb, Nat.le_refl _, ?_, ?_, World.ownsRow_nil _ _ _ _, World.ownsRow_nil _ _ _ _, fun g e => (by cases e), World.ownsRow_nil _ _ _ _, rfl, fun i h1 _ => absurd h1 (by simp)⟩, hi⟩
    · show w.heap.size + 2 ≤ (World.alloc _ _).heap.size
      simp
    · show (World.alloc _ _).heap[w.heap.size]? = _
      rw [(bel1 (w.alloc _) _).block w.heap.size (by simp)]
      exact tab_new w _
  go_enter Tryz.func35, Tryz.ntmps35
  go_wp2_with fail
  generalize World.iter _ s 0 = W0 at HInit ⊢
  obtain ⟨gb, hgb⟩ : ∃ gb, gb = w.heap.size := ⟨_, rfl⟩
  obtain ⟨bl, hbl⟩ : ∃ bl, bl = bys12 s := ⟨_, rfl⟩
  have HGb := Lib.hid hgb
  have HBl := Lib.hid hbl
  rw [← hgb] at HInit ⊢
  have hbll : bl.length = s.size := by rw [hbl]; exact bys12_len s
  have HAt : Hid (∀ i (h : i < s.size) (h2 : i < bl.length), bl[i] = ((s[i]'h).toNat : Int)) := fun i h h2 => by subst hbl; exact bys12_at s i h
  have HLn := Lib.hid hbll
  clear hgb hbl hbll
  go_loopw [3] (fun vl wr => ∃ (pos b : Nat) (vk vr : Value) (vals : List (Value × Value)), pos ≤ s.size ∧ RdS w gb (rdSt (bl.take pos)) vk vr vl b vals wr ∧ wr.heap[gb + 1]? = some (.stringIter s pos)) (fun _ wr => s.size - wr.iterPos (gb + 1))
  case atStart => exact ⟨0, _, _, _, _, Nat.zero_le _, by simpa [rdSt] using HInit.out.1, HInit.out.2⟩
  case round =>
    obtain ⟨pos, b, vk, vr, vals, hps, hR, hit⟩ := hrel
    clear HInit
    have hlen := rdSt_len bl pos
    by_cases hp : pos < s.size
    · have h128 := hs pos hp
      have hnext : ∀ ty, (Instr.next (.pointer (some ⟨gb + 1, 0, none⟩)) true ty).run Tryz.prog wr = _ := fun ty => Lib.run_next_ascii_at wr (gb + 1) s pos ty hit hp h128
      have hit1 := Lib.iterAt_heap wr (gb + 1) s pos (pos + 1) hit
      have HR := Lib.hid (hR.iter hit (pos + 1))
      have hmu : wr.iterPos (gb + 1) = pos := by simp [World.iterPos, hit]
      have hst := rdSt_next bl pos (by rw [HLn.out]; exact hp)
      rw [HAt.out pos hp (by rw [HLn.out]; exact hp)] at hst
      have HMu := Lib.hid hmu
      clear hs hR hit hmu h128
      generalize wr.iterAt (gb + 1) s (pos + 1) = W1 at hnext hit1 HR
      generalize ((s[pos]'hp).toNat : Int) = c at hnext hst
      generalize rdSt (bl.take pos) = S at HR hst hlen
      have HIt := Lib.hid hit1
      clear hit1
      have hbs := HR.out.hbs
      have hhb := HR.out.hb
      obtain ⟨pk, ck9, hpk⟩ := own_form HR.out.k
      obtain ⟨pr, cr9, hpr⟩ := own_form HR.out.r
      obtain ⟨pl, cl9, hpl⟩ := own_form HR.out.l
      subst hpk hpr hpl
      have x0 := HR.out.c0
      have x1 := HR.out.c1
      have xf0 := HR.out.fr 0
      have xf1 := HR.out.fr 1
      have hsw : gb + 2 ≤ W1.heap.size := by omega
      by_cases hc : c = 105
      · subst hc
        have hst2 : rdSt (bl.take (pos + 1)) = ⟨S.d, S.k ++ [105], S.r⟩ := by rw [hst]; rfl
        have HSt := Lib.hid hst2
        clear hst hst2
        go_wp2_with (first
          | (at_builtin; refine wpList_appR (by simp [Region.wanted]) _ _ rfl b _ S.k rfl HR.out.k 105 rfl (by omega) hbs ?_; intro v9 w9 ho hg hw; obtain ⟨p9, c9, hp9⟩ := own_form ho; rw [List.length_append] at hp9; have hp10 : v9 = .slice p9 (S.k.length + 1) c9 := hp9; subst hp10; clear hp9; have HA := Lib.hid (HR.out.app_k hg ho hw); have hbx := HA.out.2.1; have y0 : w9.cell? ⟨gb, 0, none⟩ = some (.slice pk S.k.length ck9) := (by simp [World.cell?, hbx]); have yf : w9.frozen? ⟨gb, 0, none⟩ = false := (by simp [World.frozen?, hbx]); have hsz9 := hg.size; clear ho hg hw hbx x0 x1 xf0 xf1)
          | fail)
        have HI2 : Hid ((w9.setCell ⟨gb, 0, none⟩ (.slice p9 (S.k.length + 1) c9)).heap[gb + 1]? = some (.stringIter s (pos + 1))) := (HA.out.2.2 (gb + 1) (by omega) (by omega)).trans HIt.out
        go_roundw
        case rel => exact ⟨pos + 1, b, _, _, vals, by omega, by rw [HSt.out]; exact HA.out.1, HI2.out⟩
        case measure =>
          have hmu2 : (w9.setCell ⟨gb, 0, none⟩ (.slice p9 (S.k.length + 1) c9)).iterPos (gb + 1) = pos + 1 := by unfold World.iterPos; rw [HI2.out]
          rw [HMu.out, hmu2]
          omega
      have n105 := hc
      clear hc
      by_cases hc : c = 107
      · subst hc
        have hst2 : rdSt (bl.take (pos + 1)) = ⟨S.d, S.k ++ [107], S.r⟩ := by rw [hst]; rfl
        have HSt := Lib.hid hst2
        clear hst hst2
        go_wp2_with (first
          | (at_builtin; refine wpList_appR (by simp [Region.wanted]) _ _ rfl b _ S.k rfl HR.out.k 107 rfl (by omega) hbs ?_; intro v9 w9 ho hg hw; obtain ⟨p9, c9, hp9⟩ := own_form ho; rw [List.length_append] at hp9; have hp10 : v9 = .slice p9 (S.k.length + 1) c9 := hp9; subst hp10; clear hp9; have HA := Lib.hid (HR.out.app_k hg ho hw); have hbx := HA.out.2.1; have y0 : w9.cell? ⟨gb, 0, none⟩ = some (.slice pk S.k.length ck9) := (by simp [World.cell?, hbx]); have yf : w9.frozen? ⟨gb, 0, none⟩ = false := (by simp [World.frozen?, hbx]); have hsz9 := hg.size; clear ho hg hw hbx x0 x1 xf0 xf1)
          | fail)
        have HI2 : Hid ((w9.setCell ⟨gb, 0, none⟩ (.slice p9 (S.k.length + 1) c9)).heap[gb + 1]? = some (.stringIter s (pos + 1))) := (HA.out.2.2 (gb + 1) (by omega) (by omega)).trans HIt.out
        go_roundw
        case rel => exact ⟨pos + 1, b, _, _, vals, by omega, by rw [HSt.out]; exact HA.out.1, HI2.out⟩
        case measure =>
          have hmu2 : (w9.setCell ⟨gb, 0, none⟩ (.slice p9 (S.k.length + 1) c9)).iterPos (gb + 1) = pos + 1 := by unfold World.iterPos; rw [HI2.out]
          rw [HMu.out, hmu2]
          omega
      have n107 := hc
      clear hc
      by_cases hc : c = 48
      · subst hc
        have hst2 : rdSt (bl.take (pos + 1)) = ⟨S.d, S.k, S.r ++ [48]⟩ := by rw [hst]; rfl
        have HSt := Lib.hid hst2
        clear hst hst2
        go_wp2_with (first
          | (at_builtin; refine wpList_appR (by simp [Region.wanted]) _ _ rfl b _ S.r rfl HR.out.r 48 rfl (by omega) hbs ?_; intro v9 w9 ho hg hw; obtain ⟨p9, c9, hp9⟩ := own_form ho; rw [List.length_append] at hp9; have hp10 : v9 = .slice p9 (S.r.length + 1) c9 := hp9; subst hp10; clear hp9; have HA := Lib.hid (HR.out.app_r hg ho hw); have hbx := HA.out.2.1; have y0 : w9.cell? ⟨gb, 1, none⟩ = some (.slice pr S.r.length cr9) := (by simp [World.cell?, hbx]); have yf : w9.frozen? ⟨gb, 1, none⟩ = false := (by simp [World.frozen?, hbx]); have hsz9 := hg.size; clear ho hg hw hbx x0 x1 xf0 xf1)
          | fail)
        have HI2 : Hid ((w9.setCell ⟨gb, 1, none⟩ (.slice p9 (S.r.length + 1) c9)).heap[gb + 1]? = some (.stringIter s (pos + 1))) := (HA.out.2.2 (gb + 1) (by omega) (by omega)).trans HIt.out
        go_roundw
        case rel => exact ⟨pos + 1, b, _, _, vals, by omega, by rw [HSt.out]; exact HA.out.1, HI2.out⟩
        case measure =>
          have hmu2 : (w9.setCell ⟨gb, 1, none⟩ (.slice p9 (S.r.length + 1) c9)).iterPos (gb + 1) = pos + 1 := by unfold World.iterPos; rw [HI2.out]
          rw [HMu.out, hmu2]
          omega
      have n48 := hc
      clear hc
      by_cases hc : c = 49
      · subst hc
        have hst2 : rdSt (bl.take (pos + 1)) = ⟨S.d, S.k, S.r ++ [49]⟩ := by rw [hst]; rfl
        have HSt := Lib.hid hst2
        clear hst hst2
        go_wp2_with (first
          | (at_builtin; refine wpList_appR (by simp [Region.wanted]) _ _ rfl b _ S.r rfl HR.out.r 49 rfl (by omega) hbs ?_; intro v9 w9 ho hg hw; obtain ⟨p9, c9, hp9⟩ := own_form ho; rw [List.length_append] at hp9; have hp10 : v9 = .slice p9 (S.r.length + 1) c9 := hp9; subst hp10; clear hp9; have HA := Lib.hid (HR.out.app_r hg ho hw); have hbx := HA.out.2.1; have y0 : w9.cell? ⟨gb, 1, none⟩ = some (.slice pr S.r.length cr9) := (by simp [World.cell?, hbx]); have yf : w9.frozen? ⟨gb, 1, none⟩ = false := (by simp [World.frozen?, hbx]); have hsz9 := hg.size; clear ho hg hw hbx x0 x1 xf0 xf1)
          | fail)
        have HI2 : Hid ((w9.setCell ⟨gb, 1, none⟩ (.slice p9 (S.r.length + 1) c9)).heap[gb + 1]? = some (.stringIter s (pos + 1))) := (HA.out.2.2 (gb + 1) (by omega) (by omega)).trans HIt.out
        go_roundw
        case rel => exact ⟨pos + 1, b, _, _, vals, by omega, by rw [HSt.out]; exact HA.out.1, HI2.out⟩
        case measure =>
          have hmu2 : (w9.setCell ⟨gb, 1, none⟩ (.slice p9 (S.r.length + 1) c9)).iterPos (gb + 1) = pos + 1 := by unfold World.iterPos; rw [HI2.out]
          rw [HMu.out, hmu2]
          omega
      have n49 := hc
      clear hc
      by_cases hc : c = 50
      · subst hc
        have hst2 : rdSt (bl.take (pos + 1)) = ⟨S.d, S.k, S.r ++ [50]⟩ := by rw [hst]; rfl
        have HSt := Lib.hid hst2
        clear hst hst2
        go_wp2_with (first
          | (at_builtin; refine wpList_appR (by simp [Region.wanted]) _ _ rfl b _ S.r rfl HR.out.r 50 rfl (by omega) hbs ?_; intro v9 w9 ho hg hw; obtain ⟨p9, c9, hp9⟩ := own_form ho; rw [List.length_append] at hp9; have hp10 : v9 = .slice p9 (S.r.length + 1) c9 := hp9; subst hp10; clear hp9; have HA := Lib.hid (HR.out.app_r hg ho hw); have hbx := HA.out.2.1; have y0 : w9.cell? ⟨gb, 1, none⟩ = some (.slice pr S.r.length cr9) := (by simp [World.cell?, hbx]); have yf : w9.frozen? ⟨gb, 1, none⟩ = false := (by simp [World.frozen?, hbx]); have hsz9 := hg.size; clear ho hg hw hbx x0 x1 xf0 xf1)
          | fail)
        have HI2 : Hid ((w9.setCell ⟨gb, 1, none⟩ (.slice p9 (S.r.length + 1) c9)).heap[gb + 1]? = some (.stringIter s (pos + 1))) := (HA.out.2.2 (gb + 1) (by omega) (by omega)).trans HIt.out
        go_roundw
        case rel => exact ⟨pos + 1, b, _, _, vals, by omega, by rw [HSt.out]; exact HA.out.1, HI2.out⟩
        case measure =>
          have hmu2 : (w9.setCell ⟨gb, 1, none⟩ (.slice p9 (S.r.length + 1) c9)).iterPos (gb + 1) = pos + 1 := by unfold World.iterPos; rw [HI2.out]
          rw [HMu.out, hmu2]
          omega
      have n50 := hc
      clear hc
      by_cases hc : c = 110
      · subst hc
        have hst2 : rdSt (bl.take (pos + 1)) = ⟨S.d, S.k, S.r ++ [110]⟩ := by rw [hst]; rfl
        have HSt := Lib.hid hst2
        clear hst hst2
        go_wp2_with (first
          | (at_builtin; refine wpList_appR (by simp [Region.wanted]) _ _ rfl b _ S.r rfl HR.out.r 110 rfl (by omega) hbs ?_; intro v9 w9 ho hg hw; obtain ⟨p9, c9, hp9⟩ := own_form ho; rw [List.length_append] at hp9; have hp10 : v9 = .slice p9 (S.r.length + 1) c9 := hp9; subst hp10; clear hp9; have HA := Lib.hid (HR.out.app_r hg ho hw); have hbx := HA.out.2.1; have y0 : w9.cell? ⟨gb, 1, none⟩ = some (.slice pr S.r.length cr9) := (by simp [World.cell?, hbx]); have yf : w9.frozen? ⟨gb, 1, none⟩ = false := (by simp [World.frozen?, hbx]); have hsz9 := hg.size; clear ho hg hw hbx x0 x1 xf0 xf1)
          | fail)
        have HI2 : Hid ((w9.setCell ⟨gb, 1, none⟩ (.slice p9 (S.r.length + 1) c9)).heap[gb + 1]? = some (.stringIter s (pos + 1))) := (HA.out.2.2 (gb + 1) (by omega) (by omega)).trans HIt.out
        go_roundw
        case rel => exact ⟨pos + 1, b, _, _, vals, by omega, by rw [HSt.out]; exact HA.out.1, HI2.out⟩
        case measure =>
          have hmu2 : (w9.setCell ⟨gb, 1, none⟩ (.slice p9 (S.r.length + 1) c9)).iterPos (gb + 1) = pos + 1 := by unfold World.iterPos; rw [HI2.out]
          rw [HMu.out, hmu2]
          omega
      have n110 := hc
      clear hc
      by_cases hc : c = 59
      · subst hc
        have hst2 : rdSt (bl.take (pos + 1)) = ⟨S.d ++ [(S.k, S.r)], [], []⟩ := by rw [hst]; rfl
        have HSt := Lib.hid hst2
        clear hst hst2
        go_wp2_with (first
          | (at_builtin; refine wpList_appF (by simp [Region.wanted]) _ _ rfl (gb + 2) _ S.d.length _ rfl HR.out.l (.slice pk S.k.length ck9) (.slice pr S.r.length cr9) rfl rfl rfl (by omega) hsw ?_; intro v9 w9 ho hg; have HA := Lib.hid (HR.out.turn hg ho); have hbx := HA.out.2.2; have y0 : w9.cell? ⟨gb, 0, none⟩ = some (.slice pk S.k.length ck9) := (by simp [World.cell?, hbx]); have y1 : w9.cell? ⟨gb, 1, none⟩ = some (.slice pr S.r.length cr9) := (by simp [World.cell?, hbx]); have yf0 : w9.frozen? ⟨gb, 0, none⟩ = false := (by simp [World.frozen?, hbx]); have yf1 : w9.frozen? ⟨gb, 1, none⟩ = false := (by simp [World.frozen?, hbx]); clear ho hg hbx x0 x1 xf0 xf1)
          | fail)
        have HI2 : Hid (((w9.setCell ⟨gb, 0, none⟩ (.slice none 0 0)).setCell ⟨gb, 1, none⟩ (.slice none 0 0)).heap[gb + 1]? = some (.stringIter s (pos + 1))) := (HA.out.2.1 (gb + 1) (by omega) (by omega)).trans HIt.out
        go_roundw
        case rel => exact ⟨pos + 1, _, _, _, _, by omega, by rw [HSt.out]; exact HA.out.1, HI2.out⟩
        case measure =>
          have hmu2 : ((w9.setCell ⟨gb, 0, none⟩ (.slice none 0 0)).setCell ⟨gb, 1, none⟩ (.slice none 0 0)).iterPos (gb + 1) = pos + 1 := by unfold World.iterPos; rw [HI2.out]
          rw [HMu.out, hmu2]
          omega
      have n59 := hc
      clear hc
      have hst2 : rdSt (bl.take (pos + 1)) = S := by rw [hst]; unfold rdStep; rw [if_neg (by omega), if_neg (by omega), if_neg (by omega)]
      have HSt := Lib.hid hst2
      have q105 : (c == 105) = false := by rw [beq_eq_false_iff_ne]; exact n105
      have q107 : (c == 107) = false := by rw [beq_eq_false_iff_ne]; exact n107
      have q48 : (c == 48) = false := by rw [beq_eq_false_iff_ne]; exact n48
      have q49 : (c == 49) = false := by rw [beq_eq_false_iff_ne]; exact n49
      have q50 : (c == 50) = false := by rw [beq_eq_false_iff_ne]; exact n50
      have q110 : (c == 110) = false := by rw [beq_eq_false_iff_ne]; exact n110
      have q59 : (c == 59) = false := by rw [beq_eq_false_iff_ne]; exact n59
      clear hst hst2 n105 n107 n48 n49 n50 n110 n59
      go_wp2_with fail
      go_roundw
      case rel => exact ⟨pos + 1, b, _, _, vals, by omega, by rw [HSt.out]; exact HR.out, HIt.out⟩
      case measure =>
        have hmu2 : W1.iterPos (gb + 1) = pos + 1 := by unfold World.iterPos; rw [HIt.out]
        rw [HMu.out, hmu2]
        omega
    · have hpe : pos = s.size := by omega
      have hnext : ∀ ty, (Instr.next (.pointer (some ⟨gb + 1, 0, none⟩)) true ty).run Tryz.prog wr = _ := fun ty => Lib.run_next_end_at wr (gb + 1) s pos ty hit hp
      rw [List.take_of_length_le (by rw [HLn.out]; omega)] at hR hlen
      have HR := Lib.hid hR
      have hbs := hR.hbs
      have hhb := hR.hb
      have hrf : rdF bl = (rdSt bl).d ++ [((rdSt bl).k, (rdSt bl).r)] := rfl
      have HRf := Lib.hid hrf
      clear hrf hR hit hs
      generalize rdSt bl = S at HR hlen HRf
      obtain ⟨pk, ck9, hpk⟩ := own_form HR.out.k
      obtain ⟨pr, cr9, hpr⟩ := own_form HR.out.r
      obtain ⟨pl, cl9, hpl⟩ := own_form HR.out.l
      subst hpk hpr hpl
      have x0 := HR.out.c0
      have x1 := HR.out.c1
      have hsw : gb + 2 ≤ wr.heap.size := by omega
      have hl9 : S.d.length + 1 ≤ 1000000 := by omega
      go_wp2_with (first
        | (at_builtin; refine wpList_appF (by simp [Region.wanted]) _ _ rfl (gb + 2) _ S.d.length _ rfl HR.out.l (.slice pk S.k.length ck9) (.slice pr S.r.length cr9) rfl rfl rfl hl9 hsw ?_; intro v9 w9 ho hg; have HO := Lib.hid ho; have HA := Lib.hid (HR.out.more hg ho); clear ho hg x0 x1)
        | fail)
      go_ret
      refine ⟨_, rfl, ?_, by rw [← HGb.out]; exact HA.out.1⟩
      rw [← HBl.out, HRf.out]
      refine ⟨vals ++ [(.slice pk S.k.length ck9, .slice pr S.r.length cr9)], ?_, by simp [HR.out.len], fun i h1 h2 => ⟨(HA.out.2.2.2.2 i h1 h2).1.1, (HA.out.2.2.2.2 i h1 h2).2.1⟩⟩
      rw [flat12_snoc, show (S.d ++ [(S.k, S.r)]).length = S.d.length + 1 by simp]
      exact own_move HO.out fun g _ => ⟨rfl, Nat.zero_le _⟩
end Go.Proofs.YtpbfbejckhbijaaGreatDoor
