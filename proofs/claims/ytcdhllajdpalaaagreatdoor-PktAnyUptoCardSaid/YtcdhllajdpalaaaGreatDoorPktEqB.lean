/-
  pkt.Eq of a packet and itself (as PktEq, over fewer texts: for PktAny).
-/
import Derived.Test.YtcdhllajdpalaaaGreatDoorHdEq
import Derived.Test.YtcdhllajdpalaaaGreatDoorPktC
import Derived.Test.YtcdhllajdpalaaaGreatDoorRefOpM
namespace Go.Proofs.YtcdhllajdpalaaaGreatDoor
open Go.ChangeShapes Go.WideShapes Go.ChangeAt Go.RowKit
set_option linter.unusedVariables false
set_option linter.unusedSimpArgs false

theorem load_mid_e {ops : Array Oper} {rest : List Oper} {o : Oper} {a : Act} {w : World} {Q : Exit → Act → World → Prop} (hgd : Region.wanted o (yielded ops a.tmps) = true) (x : Operand) (ho : o.op = .load 26 x)
    (B : Nat) (hx : a.eval x = .pointer (some ⟨B, 0, none⟩)) (h : Hd) (v : Value) (s : ByteArray) (hb : PkBlk h v s B w)
    (hh : wpList Tryz.prog ops Q rest (a.put o.dst h.val) w) : wpList Tryz.prog ops Q (o :: rest) a w :=
  BigFrame.wpList_want hgd fun _ hK => wp_load_mid 26 x ho B 0 hx h.cellsA.toList _ hb.range Tryz.underlying26 rfl infoHd (hK _ _ hh)
set_option maxHeartbeats 2000000 in
set_option maxRecDepth 100000 in
theorem slicesEq_same (w : World) (v1 v2 : Value) (os : List M.Opt) (h1 : OptsAt w v1 os) (h2 : OptsAt w v2 os) :
    Calls Tryz.prog 57 #[v1, v2] w fun e w' => e = .returned (.bool true) ∧ ∃ n, w' = w.drewN n := by
  have hlen := h1.len
  obtain ⟨p1, cap1, rfl, hp1⟩ := h1.parts
  obtain ⟨p2, cap2, rfl, hp2⟩ := h2.parts
  have HP1 := Lib.hid hp1; have HP2 := Lib.hid hp2
  clear hp1 hp2 h1 h2
  generalize hn : os.length = n at *
  clear hn
  go_enter Tryz.func57, Tryz.ntmps57
  go_wp2
  go_loopw [13] (fun i wr => ∃ k : Nat, k ≤ n ∧ i = .int .i64 (k : Int) ∧ Hid (∃ m, wr = w.drewN m)) (fun i _ => n - (intOf i).toNat)
  case atStart => exact ⟨0, Nat.zero_le _, rfl, Lib.hid ⟨0, rfl⟩⟩
  case round =>
    obtain ⟨k, hk, rfl, hm⟩ := hrel
    by_cases hkn : k < n
    · obtain ⟨b1, o1, rfl, hb1, c1, d1⟩ := HP1.out k hkn
      obtain ⟨b2, o2, rfl, hb2, c2, d2⟩ := HP2.out k hkn
      have hcw : ∀ a, wr.cell? a = w.cell? a := by
        obtain ⟨m, rfl⟩ := hm.out
        exact fun a => rfl
      rw [← hcw] at c1 d1 c2 d2
      generalize (os.getD k ⟨0, []⟩).t = t at *
      generalize (os.getD k ⟨0, []⟩).d = d at *
      generalize str d = ds at *
      clear hcw
      go_upto_region 6 with fail
      go_quiet (fail)
      go_wp2
      refine ⟨⟨k + 1, by omega, by go_num, Lib.hid ?_⟩, ?_⟩
      · obtain ⟨m, rfl⟩ := hm.out
        exact ⟨_, World.drewN_drewN _ _ _⟩
      · simp [intOf]; omega
    · go_wp2
      go_ret
      exact ⟨rfl, hm.out⟩


set_option maxHeartbeats 4000000 in
set_option maxRecDepth 100000 in
theorem pktEq_same (G : Hd) (va : Option Addr) (vc : Nat) (os : List M.Opt) (D : ByteArray) (w : World) (hos : OptsAt w (.slice va os.length vc) os) :
    Calls Tryz.prog 20 #[Pv G (.slice va os.length vc) D, Pv G (.slice va os.length vc) D] w fun e w' => e = .returned (.bool true) ∧ Below w.heap.size w w' := by
  have hbx : PkBox G (.slice va os.length vc) D = .cells #[.int .i64 G.src, .int .i64 G.dst, .int .i64 G.off, .int .i64 G.cc, .int .i64 G.cs, .int .i64 G.sum, .int .i64 G.type, .bool G.x, .int .u64 G.seq, .int .u64 G.ack, .int .u32 G.service, .int .i64 G.code, .int .u8 G.i0, .int .u8 G.i1, .int .u8 G.i2, .slice va os.length vc, .string D] 40 := rfl
  obtain ⟨W, hW⟩ : ∃ W, W = (w.alloc (PkBox G (.slice va os.length vc) D)).alloc (PkBox G (.slice va os.length vc) D) := ⟨_, rfl⟩
  have h1 : PkBlk G (.slice va os.length vc) D w.heap.size W := by rw [hW]; exact (PkBlk.new G _ D w).below (bel_alloc _ _)
  have h2 : PkBlk G (.slice va os.length vc) D (w.heap.size + 1) W := by
    rw [hW]
    have := PkBlk.new G (.slice va os.length vc) D (w.alloc (PkBox G (.slice va os.length vc) D))
    rwa [show (w.alloc (PkBox G (.slice va os.length vc) D)).heap.size = w.heap.size + 1 by simp] at this
  have hb : Below w.heap.size w W := by rw [hW]; exact bel_trans (bel_alloc _ _) (bel_alloc _ _)
  have HEQ := Lib.hid (slicesEq_same W _ _ os (hos.below hb) (hos.below hb))
  have H1 := Lib.hid h1; have H2 := Lib.hid h2; have HB := Lib.hid hb
  have a15 := h1.cells.1
  have a16 := h1.cells.2
  have b15 := h2.cells.1
  have b16 := h2.cells.2
  rw [hbx] at hW
  have hez : ∀ w : World, (binOp .eql 26 G.val G.val).run Tryz.prog w = .ok (.bool true) w := fun w => by
    have := eqlHd G G w
    rw [(Hd.eqB_iff G G).2 rfl] at this
    exact this
  have hgz := fun op x y w => guardHd2 op x y G G w
  have HFIN : Hid (∀ n, Below w.heap.size w (W.drewN n)) := Lib.hid (fun n => bel_trans hb (bel_drewN _ _))
  clear hbx h1 h2 hb hos
  unfold Pv
  go_enter Tryz.func20, Tryz.ntmps20
  go_upto_region 1 with fail
  rw [← hW]
  obtain ⟨B, hB⟩ : ∃ B, B = w.heap.size := ⟨_, rfl⟩
  rw [← hB] at H1 H2 a15 a16 b15 b16 ⊢
  clear hW hB
  go_wp2_with (first
    | (refine load_mid_e rfl _ rfl B rfl _ _ _ H1.out ?_)
    | (refine load_mid_e rfl _ rfl (B + 1) rfl _ _ _ H2.out ?_)
    | (go_at_call 57; (with_reducible refine HEQ.out.mono ?_); rintro e w3 ⟨rfl, n3, rfl⟩))
  go_ret
  exact ⟨by simp, HFIN.out _⟩
end Go.Proofs.YtcdhllajdpalaaaGreatDoor
