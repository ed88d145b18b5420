/-
  The document's PutHead: of a head that may be.
-/
import Derived.Test.YtcdhllajdpalaaaGreatDoorGetS
import Derived.Test.YtcdhllajdpalaaaGreatDoorHeadMath
namespace Go.Proofs.YtcdhllajdpalaaaGreatDoor
open Go.ChangeShapes Go.WideShapes Go.ChangeAt Go.RowKit
set_option linter.unusedVariables false
set_option linter.unusedSimpArgs false
theorem ex_conv32 (ρ : Operand → Value) (W : World) (o : Oper) (x : Operand) (n : Nat) (hn : n < 4294967296) (ho : o.op = .convert 23 22 x) (hx : ρ x = .int .u32 n) : (execOp ρ o).run Tryz.prog W = .ok (.value (.int .u64 n)) W := by
  have h := IntWalk.u64_in (n : Int) (by omega)
  unfold execOp
  rw [ho]
  simp [go_sem, hx, h]
theorem be_len {k n : Nat} {l : List UInt8} (h : beBytes k n = l) : l.length = k := by rw [← h]; exact beBytes_length k n
/-- The document's Bytes, its text by name. -/
theorem refBytes_q {n k : Nat} {l : List UInt8} (h : beBytes k n = l) (hn : n < 18446744073709551616) (hk : k ≤ 64) (W : World) :
    Calls Tryz.prog 49 #[.int .u64 n, .int .i64 k] W fun e w' => e = .returned (.string (str l)) ∧ Below W.heap.size W w' := by
  rw [← h]; exact refBytes_any n k hn hk W

set_option maxHeartbeats 4000000 in
set_option maxRecDepth 100000 in
theorem refPut_walk (s d o c v u t : Nat) (x : Bool) (q ak sv : Nat) (code : Int) (i0 i1 i2 : Nat) (h : Hd) (hh : h = ⟨s, d, o, c, v, u, t, x, q, ak, sv, code, i0, i1, i2⟩) (hs : s ≤ 65535) (hd : d ≤ 65535) (ho : o ≤ 255) (hc : c ≤ 15) (hv : v ≤ 15) (hu : u ≤ 65535) (ht : t ≤ 9)
    (hz : sizeN t x ≠ 0) (hq : q < 256 ^ numLen x) (hak : ak < 256 ^ numLen x) (hsv : sv < 4294967296) (hcd : codeB t = true → 0 ≤ code ∧ code ≤ 255) (hi0 : i0 < 256) (hi1 : i1 < 256) (hi2 : i2 < 256) (w : World) :
    Calls Tryz.prog 16 #[h.val] w fun e w' => e = .returned (.string (str h.bytes)) ∧ Below w.heap.size w w' := by
  have hnl := (numLen_le x).1
  have hpw : 256 ^ numLen x ≤ 281474976710656 := by cases x <;> decide
  have HHB : Hid (h.bytes = beBytes 2 s ++ beBytes 2 d ++ beBytes 1 o ++ beBytes 1 (c * 16 + v) ++ beBytes 2 u ++ beBytes 1 (typeN t x) ++ (h.seqBytes ++ h.ackBytes) ++ h.extraBytes) := Lib.hid (by rw [hh]; simp [Hd.bytes])
  have HSB : Hid (h.seqBytes = beBytes (seqPad x + numLen x) q ∧ h.ackBytes = (if hasAckB t = true then beBytes (ackPad x + numLen x) ak else []) ∧ h.extraBytes = (if serviceB t = true then beBytes 4 sv else if codeB t = true then beBytes 1 code.toNat ++ h.infoBytes else [])) := Lib.hid (by rw [hh]; exact ⟨rfl, rfl, rfl⟩)
  obtain ⟨b1, h1⟩ : ∃ b, beBytes 2 s = b := ⟨_, rfl⟩
  obtain ⟨b2, h2⟩ : ∃ b, beBytes 2 d = b := ⟨_, rfl⟩
  obtain ⟨b3, h3⟩ : ∃ b, beBytes 1 o = b := ⟨_, rfl⟩
  obtain ⟨b4, h4⟩ : ∃ b, beBytes 1 (c * 16 + v) = b := ⟨_, rfl⟩
  obtain ⟨b5, h5⟩ : ∃ b, beBytes 2 u = b := ⟨_, rfl⟩
  have l1 := be_len h1; have l2 := be_len h2; have l3 := be_len h3; have l4 := be_len h4; have l5 := be_len h5
  have HB1 := Lib.hid (refBytes_q h1 (by omega) (by decide)); have HB2 := Lib.hid (refBytes_q h2 (by omega) (by decide)); have HB3 := Lib.hid (refBytes_q h3 (by omega) (by decide)); have HB4 := Lib.hid (refBytes_q h4 (by omega) (by decide)); have HB5 := Lib.hid (refBytes_q h5 (by omega) (by decide))
  rw [h1, h2, h3, h4, h5] at HHB
  clear h1 h2 h3 h4 h5
  subst hh
  change Calls Tryz.prog _ #[.agg #[.int .i64 s, .int .i64 d, .int .i64 o, .int .i64 c, .int .i64 v, .int .i64 u, .int .i64 t, .bool x, .int .u64 q, .int .u64 ak, .int .u32 sv, .int .i64 code, .int .u8 i0, .int .u8 i1, .int .u8 i2]] w _
  go_enter Tryz.func16, Tryz.ntmps16
  go_upto_region 1 with fail
  generalize hW1 : w.alloc _ = W1 at *
  have HBW : Hid (Below w.heap.size w W1) := Lib.hid (by rw [← hW1]; exact bel_alloc w _)
  have HBK : Hid (HdBlk ⟨s, d, o, c, v, u, t, x, q, ak, sv, code, i0, i1, i2⟩ w.heap.size W1) := Lib.hid (by rw [← hW1]; exact heap_alloc_new w _)
  have HWS : Hid (w.heap.size ≤ W1.heap.size) := Lib.hid HBW.out.size
  have HB : Hid (Below W1.heap.size W1 W1) := Lib.hid (Below.refl _ _)
  clear hW1
  refine Rg.regionW (by kernel_rfl) [5, 6, 7, 8, 9, 10, 11, 12, 13, 14, 15, 16, 17, 18, 19, 20, 21, 22, 23, 24, 25, 26, 27, 28, 29, 30, 31, 32, 3] (VI [.pointer (some ⟨w.heap.size, 0, none⟩), .int .i64 (s : Nat), .int .u64 (s : Nat), .string (str b1), .pointer (some ⟨w.heap.size, 1, none⟩), .int .i64 (d : Nat), .int .u64 (d : Nat), .string (str b2), .string (str (b1 ++ b2)), .pointer (some ⟨w.heap.size, 2, none⟩), .int .i64 (o : Nat), .int .u64 (o : Nat), .string (str b3), .string (str (b1 ++ b2 ++ b3)), .pointer (some ⟨w.heap.size, 3, none⟩), .int .i64 (c : Nat), .int .i64 (c * 16 : Nat), .pointer (some ⟨w.heap.size, 4, none⟩), .int .i64 (v : Nat), .int .i64 (c * 16 + v : Nat), .int .u64 (c * 16 + v : Nat), .string (str b4), .string (str (b1 ++ b2 ++ b3 ++ b4)), .pointer (some ⟨w.heap.size, 5, none⟩), .int .i64 (u : Nat), .int .u64 (u : Nat), .string (str b5), .string (str (b1 ++ b2 ++ b3 ++ b4 ++ b5)), .string (str (b1 ++ b2 ++ b3 ++ b4 ++ b5))] 28 undef W1.heap.size W1) (by kernel_rfl) (fun V hV => VI.start HB.out HB.out.size V ((hV 28).trans rfl)) ⟨?_, ?_, ?_, ?_, ?_, ?_, ?_, ?_, ?_, ?_, ?_, ?_, ?_, ?_, ?_, ?_, ?_, ?_, ?_, ?_, ?_, ?_, ?_, ?_, ?_, ?_, ?_, ?_, ?_, trivial⟩ ?_
  · intro L V a W hli hdeps hsl hVe hI K1 hk
    have e0 : a.eval (.tmp 1) = .pointer (some ⟨w.heap.size, 0, none⟩) := (hsl 1 (by decide)).trans rfl
    exact Rg.valJ hk (ex_field _ W _ w.heap.size 0 (by decide) rfl e0) (fun V' hV hv => hI.quiet 0 V' hV (by decide) (fun h => absurd h (by decide)) (hv rfl))
  · intro L V a W hli hdeps hsl hVe hI K1 hk
    have e0 : a.eval (.tmp 5) = .pointer (some ⟨w.heap.size, 0, none⟩) := (hVe 0).symm.trans (hI.vals 0 (hdeps ⟨0, .data⟩ (by simp) rfl))
    exact Rg.valJ hk (ex_load _ W _ w.heap.size 0 _ _ (.int .i64 (s : Nat)) rfl (.inl rfl) e0 ((HdBlk.below HBK.out hI.bel).cell 0 (.int .i64 (s : Nat)) rfl)) (fun V' hV hv => hI.quiet 1 V' hV (by decide) (fun h => absurd h (by decide)) (hv rfl))
  · intro L V a W hli hdeps hsl hVe hI K1 hk
    have e0 : a.eval (.tmp 6) = .int .i64 (s : Nat) := (hVe 1).symm.trans (hI.vals 1 (hdeps ⟨1, .data⟩ (by simp) rfl))
    exact Rg.valJ hk (ex_convU _ W _ _ _ (by omega) rfl e0) (fun V' hV hv => hI.quiet 2 V' hV (by decide) (fun h => absurd h (by decide)) (hv rfl))
  · intro L V a W hli hdeps hsl hVe hI K1 hk
    have e0 : a.eval (.tmp 7) = .int .u64 (s : Nat) := (hVe 2).symm.trans (hI.vals 2 (hdeps ⟨2, .data⟩ (by simp) rfl))
    exact callJ hk (ex_bytes _ W _ _ _ _ _ _ rfl e0 rfl rfl) ((HB1.out W).mono fun e w' hh => ⟨_, hh.1, fun V' hV hv => hI.call 3 hh.2 V' hV (by decide) (fun h => absurd h (by decide)) (hv rfl)⟩)
  · intro L V a W hli hdeps hsl hVe hI K1 hk
    have e0 : a.eval (.tmp 1) = .pointer (some ⟨w.heap.size, 0, none⟩) := (hsl 1 (by decide)).trans rfl
    exact Rg.valJ hk (ex_field _ W _ w.heap.size 1 (by decide) rfl e0) (fun V' hV hv => hI.quiet 4 V' hV (by decide) (fun h => absurd h (by decide)) (hv rfl))
  · intro L V a W hli hdeps hsl hVe hI K1 hk
    have e0 : a.eval (.tmp 9) = .pointer (some ⟨w.heap.size, 1, none⟩) := (hVe 4).symm.trans (hI.vals 4 (hdeps ⟨4, .data⟩ (by simp) rfl))
    exact Rg.valJ hk (ex_load _ W _ w.heap.size 1 _ _ (.int .i64 (d : Nat)) rfl (.inl rfl) e0 ((HdBlk.below HBK.out hI.bel).cell 1 (.int .i64 (d : Nat)) rfl)) (fun V' hV hv => hI.quiet 5 V' hV (by decide) (fun h => absurd h (by decide)) (hv rfl))
  · intro L V a W hli hdeps hsl hVe hI K1 hk
    have e0 : a.eval (.tmp 10) = .int .i64 (d : Nat) := (hVe 5).symm.trans (hI.vals 5 (hdeps ⟨5, .data⟩ (by simp) rfl))
    exact Rg.valJ hk (ex_convU _ W _ _ _ (by omega) rfl e0) (fun V' hV hv => hI.quiet 6 V' hV (by decide) (fun h => absurd h (by decide)) (hv rfl))
  · intro L V a W hli hdeps hsl hVe hI K1 hk
    have e0 : a.eval (.tmp 11) = .int .u64 (d : Nat) := (hVe 6).symm.trans (hI.vals 6 (hdeps ⟨6, .data⟩ (by simp) rfl))
    exact callJ hk (ex_bytes _ W _ _ _ _ _ _ rfl e0 rfl rfl) ((HB2.out W).mono fun e w' hh => ⟨_, hh.1, fun V' hV hv => hI.call 7 hh.2 V' hV (by decide) (fun h => absurd h (by decide)) (hv rfl)⟩)
  · intro L V a W hli hdeps hsl hVe hI K1 hk
    have e0 : a.eval (.tmp 8) = .string (str b1) := (hVe 3).symm.trans (hI.vals 3 (hdeps ⟨3, .data⟩ (by simp) rfl))
    have e1 : a.eval (.tmp 12) = .string (str b2) := (hVe 7).symm.trans (hI.vals 7 (hdeps ⟨7, .data⟩ (by simp) rfl))
    exact Rg.valJ hk (ex_addS _ W _ _ _ _ _ (by (try simp only [List.length_append, List.length_cons, List.length_nil]); omega) (by (try simp only [List.length_append, List.length_cons, List.length_nil]); omega) rfl e0 e1) (fun V' hV hv => hI.quiet 8 V' hV (by decide) (fun h => absurd h (by decide)) (hv rfl))
  · intro L V a W hli hdeps hsl hVe hI K1 hk
    have e0 : a.eval (.tmp 1) = .pointer (some ⟨w.heap.size, 0, none⟩) := (hsl 1 (by decide)).trans rfl
    exact Rg.valJ hk (ex_field _ W _ w.heap.size 2 (by decide) rfl e0) (fun V' hV hv => hI.quiet 9 V' hV (by decide) (fun h => absurd h (by decide)) (hv rfl))
  · intro L V a W hli hdeps hsl hVe hI K1 hk
    have e0 : a.eval (.tmp 14) = .pointer (some ⟨w.heap.size, 2, none⟩) := (hVe 9).symm.trans (hI.vals 9 (hdeps ⟨9, .data⟩ (by simp) rfl))
    exact Rg.valJ hk (ex_load _ W _ w.heap.size 2 _ _ (.int .i64 (o : Nat)) rfl (.inl rfl) e0 ((HdBlk.below HBK.out hI.bel).cell 2 (.int .i64 (o : Nat)) rfl)) (fun V' hV hv => hI.quiet 10 V' hV (by decide) (fun h => absurd h (by decide)) (hv rfl))
  · intro L V a W hli hdeps hsl hVe hI K1 hk
    have e0 : a.eval (.tmp 15) = .int .i64 (o : Nat) := (hVe 10).symm.trans (hI.vals 10 (hdeps ⟨10, .data⟩ (by simp) rfl))
    exact Rg.valJ hk (ex_convU _ W _ _ _ (by omega) rfl e0) (fun V' hV hv => hI.quiet 11 V' hV (by decide) (fun h => absurd h (by decide)) (hv rfl))
  · intro L V a W hli hdeps hsl hVe hI K1 hk
    have e0 : a.eval (.tmp 16) = .int .u64 (o : Nat) := (hVe 11).symm.trans (hI.vals 11 (hdeps ⟨11, .data⟩ (by simp) rfl))
    exact callJ hk (ex_bytes _ W _ _ _ _ _ _ rfl e0 rfl rfl) ((HB3.out W).mono fun e w' hh => ⟨_, hh.1, fun V' hV hv => hI.call 12 hh.2 V' hV (by decide) (fun h => absurd h (by decide)) (hv rfl)⟩)
  · intro L V a W hli hdeps hsl hVe hI K1 hk
    have e0 : a.eval (.tmp 13) = .string (str (b1 ++ b2)) := (hVe 8).symm.trans (hI.vals 8 (hdeps ⟨8, .data⟩ (by simp) rfl))
    have e1 : a.eval (.tmp 17) = .string (str b3) := (hVe 12).symm.trans (hI.vals 12 (hdeps ⟨12, .data⟩ (by simp) rfl))
    exact Rg.valJ hk (ex_addS _ W _ _ _ _ _ (by (try simp only [List.length_append, List.length_cons, List.length_nil]); omega) (by (try simp only [List.length_append, List.length_cons, List.length_nil]); omega) rfl e0 e1) (fun V' hV hv => hI.quiet 13 V' hV (by decide) (fun h => absurd h (by decide)) (hv rfl))
  · intro L V a W hli hdeps hsl hVe hI K1 hk
    have e0 : a.eval (.tmp 1) = .pointer (some ⟨w.heap.size, 0, none⟩) := (hsl 1 (by decide)).trans rfl
    exact Rg.valJ hk (ex_field _ W _ w.heap.size 3 (by decide) rfl e0) (fun V' hV hv => hI.quiet 14 V' hV (by decide) (fun h => absurd h (by decide)) (hv rfl))
  · intro L V a W hli hdeps hsl hVe hI K1 hk
    have e0 : a.eval (.tmp 19) = .pointer (some ⟨w.heap.size, 3, none⟩) := (hVe 14).symm.trans (hI.vals 14 (hdeps ⟨14, .data⟩ (by simp) rfl))
    exact Rg.valJ hk (ex_load _ W _ w.heap.size 3 _ _ (.int .i64 (c : Nat)) rfl (.inl rfl) e0 ((HdBlk.below HBK.out hI.bel).cell 3 (.int .i64 (c : Nat)) rfl)) (fun V' hV hv => hI.quiet 15 V' hV (by decide) (fun h => absurd h (by decide)) (hv rfl))
  · intro L V a W hli hdeps hsl hVe hI K1 hk
    have e0 : a.eval (.tmp 20) = .int .i64 (c : Nat) := (hVe 15).symm.trans (hI.vals 15 (hdeps ⟨15, .data⟩ (by simp) rfl))
    exact Rg.valJ hk (ex_mulI _ W _ _ _ (c) (16) (by omega) rfl e0 rfl) (fun V' hV hv => hI.quiet 16 V' hV (by decide) (fun h => absurd h (by decide)) (hv rfl))
  · intro L V a W hli hdeps hsl hVe hI K1 hk
    have e0 : a.eval (.tmp 1) = .pointer (some ⟨w.heap.size, 0, none⟩) := (hsl 1 (by decide)).trans rfl
    exact Rg.valJ hk (ex_field _ W _ w.heap.size 4 (by decide) rfl e0) (fun V' hV hv => hI.quiet 17 V' hV (by decide) (fun h => absurd h (by decide)) (hv rfl))
  · intro L V a W hli hdeps hsl hVe hI K1 hk
    have e0 : a.eval (.tmp 22) = .pointer (some ⟨w.heap.size, 4, none⟩) := (hVe 17).symm.trans (hI.vals 17 (hdeps ⟨17, .data⟩ (by simp) rfl))
    exact Rg.valJ hk (ex_load _ W _ w.heap.size 4 _ _ (.int .i64 (v : Nat)) rfl (.inl rfl) e0 ((HdBlk.below HBK.out hI.bel).cell 4 (.int .i64 (v : Nat)) rfl)) (fun V' hV hv => hI.quiet 18 V' hV (by decide) (fun h => absurd h (by decide)) (hv rfl))
  · intro L V a W hli hdeps hsl hVe hI K1 hk
    have e0 : a.eval (.tmp 21) = .int .i64 (c * 16 : Nat) := (hVe 16).symm.trans (hI.vals 16 (hdeps ⟨16, .data⟩ (by simp) rfl))
    have e1 : a.eval (.tmp 23) = .int .i64 (v : Nat) := (hVe 18).symm.trans (hI.vals 18 (hdeps ⟨18, .data⟩ (by simp) rfl))
    exact Rg.valJ hk (ex_addI _ W _ _ _ (c * 16) (v) (by omega) rfl e0 e1) (fun V' hV hv => hI.quiet 19 V' hV (by decide) (fun h => absurd h (by decide)) (hv rfl))
  · intro L V a W hli hdeps hsl hVe hI K1 hk
    have e0 : a.eval (.tmp 24) = .int .i64 (c * 16 + v : Nat) := (hVe 19).symm.trans (hI.vals 19 (hdeps ⟨19, .data⟩ (by simp) rfl))
    exact Rg.valJ hk (ex_convU _ W _ _ _ (by omega) rfl e0) (fun V' hV hv => hI.quiet 20 V' hV (by decide) (fun h => absurd h (by decide)) (hv rfl))
  · intro L V a W hli hdeps hsl hVe hI K1 hk
    have e0 : a.eval (.tmp 25) = .int .u64 (c * 16 + v : Nat) := (hVe 20).symm.trans (hI.vals 20 (hdeps ⟨20, .data⟩ (by simp) rfl))
    exact callJ hk (ex_bytes _ W _ _ _ _ _ _ rfl e0 rfl rfl) ((HB4.out W).mono fun e w' hh => ⟨_, hh.1, fun V' hV hv => hI.call 21 hh.2 V' hV (by decide) (fun h => absurd h (by decide)) (hv rfl)⟩)
  · intro L V a W hli hdeps hsl hVe hI K1 hk
    have e0 : a.eval (.tmp 18) = .string (str (b1 ++ b2 ++ b3)) := (hVe 13).symm.trans (hI.vals 13 (hdeps ⟨13, .data⟩ (by simp) rfl))
    have e1 : a.eval (.tmp 26) = .string (str b4) := (hVe 21).symm.trans (hI.vals 21 (hdeps ⟨21, .data⟩ (by simp) rfl))
    exact Rg.valJ hk (ex_addS _ W _ _ _ _ _ (by (try simp only [List.length_append, List.length_cons, List.length_nil]); omega) (by (try simp only [List.length_append, List.length_cons, List.length_nil]); omega) rfl e0 e1) (fun V' hV hv => hI.quiet 22 V' hV (by decide) (fun h => absurd h (by decide)) (hv rfl))
  · intro L V a W hli hdeps hsl hVe hI K1 hk
    have e0 : a.eval (.tmp 1) = .pointer (some ⟨w.heap.size, 0, none⟩) := (hsl 1 (by decide)).trans rfl
    exact Rg.valJ hk (ex_field _ W _ w.heap.size 5 (by decide) rfl e0) (fun V' hV hv => hI.quiet 23 V' hV (by decide) (fun h => absurd h (by decide)) (hv rfl))
  · intro L V a W hli hdeps hsl hVe hI K1 hk
    have e0 : a.eval (.tmp 28) = .pointer (some ⟨w.heap.size, 5, none⟩) := (hVe 23).symm.trans (hI.vals 23 (hdeps ⟨23, .data⟩ (by simp) rfl))
    exact Rg.valJ hk (ex_load _ W _ w.heap.size 5 _ _ (.int .i64 (u : Nat)) rfl (.inl rfl) e0 ((HdBlk.below HBK.out hI.bel).cell 5 (.int .i64 (u : Nat)) rfl)) (fun V' hV hv => hI.quiet 24 V' hV (by decide) (fun h => absurd h (by decide)) (hv rfl))
  · intro L V a W hli hdeps hsl hVe hI K1 hk
    have e0 : a.eval (.tmp 29) = .int .i64 (u : Nat) := (hVe 24).symm.trans (hI.vals 24 (hdeps ⟨24, .data⟩ (by simp) rfl))
    exact Rg.valJ hk (ex_convU _ W _ _ _ (by omega) rfl e0) (fun V' hV hv => hI.quiet 25 V' hV (by decide) (fun h => absurd h (by decide)) (hv rfl))
  · intro L V a W hli hdeps hsl hVe hI K1 hk
    have e0 : a.eval (.tmp 30) = .int .u64 (u : Nat) := (hVe 25).symm.trans (hI.vals 25 (hdeps ⟨25, .data⟩ (by simp) rfl))
    exact callJ hk (ex_bytes _ W _ _ _ _ _ _ rfl e0 rfl rfl) ((HB5.out W).mono fun e w' hh => ⟨_, hh.1, fun V' hV hv => hI.call 26 hh.2 V' hV (by decide) (fun h => absurd h (by decide)) (hv rfl)⟩)
  · intro L V a W hli hdeps hsl hVe hI K1 hk
    have e0 : a.eval (.tmp 27) = .string (str (b1 ++ b2 ++ b3 ++ b4)) := (hVe 22).symm.trans (hI.vals 22 (hdeps ⟨22, .data⟩ (by simp) rfl))
    have e1 : a.eval (.tmp 31) = .string (str b5) := (hVe 26).symm.trans (hI.vals 26 (hdeps ⟨26, .data⟩ (by simp) rfl))
    exact Rg.valJ hk (ex_addS _ W _ _ _ _ _ (by (try simp only [List.length_append, List.length_cons, List.length_nil]); omega) (by (try simp only [List.length_append, List.length_cons, List.length_nil]); omega) rfl e0 e1) (fun V' hV hv => hI.quiet 27 V' hV (by decide) (fun h => absurd h (by decide)) (hv rfl))
  · intro L V a W hli hdeps hsl hVe hI K1 hk
    have e0 : a.eval (.tmp 32) = .string (str (b1 ++ b2 ++ b3 ++ b4 ++ b5)) := (hVe 27).symm.trans (hI.vals 27 (hdeps ⟨27, .data⟩ (by simp) rfl))
    exact Rg.valJ hk (ex_setV _ W _ _ _ rfl e0) (fun V' hV hv => hI.quiet 28 V' hV (by decide) (fun _ => hdeps ⟨0, .phase⟩ (by simp) rfl) (hv rfl))
  · intro W2 f L V hL hVf hI
    have e3 : f 3 = .string (str (b1 ++ b2 ++ b3 ++ b4 ++ b5)) := (hVf 28).symm.trans (hI.vals 28 (hL 28 (by decide)))
    have hb2 := hI.bel
    clear hI hL hVf
    simp only [Rg.puts, List.foldl_cons, List.foldl_nil, Act.put, List.setIfInBounds_toArray, List.set_cons_succ, List.set_cons_zero, e3]
    clear e3
    obtain ⟨A, hA⟩ : ∃ A, b1 ++ b2 ++ b3 ++ b4 ++ b5 = A := ⟨_, rfl⟩
    have lA : A.length = 8 := by rw [← hA]; simp [l1, l2, l3, l4, l5]
    rw [hA] at HHB ⊢
    clear HB1 HB2 HB3 HB4 HB5 l1 l2 l3 l4 l5 hA b1 b2 b3 b4 b5
    have HB := Lib.hid hb2
    clear hb2
    have hk2 := HdBlk.below HBK.out HB.out
    have c7 := hk2.cell 7 (.bool x) rfl
    clear hk2
    rcases get_kinds t x hz with ⟨hx, hA, hSv, hCd, hSz, e0, e1, e7⟩ | ⟨hx, hA, hSv, hCd, hSz, e0, e1, e7⟩ | ⟨hx, hA, hSv, hCd, hSz, e0, e1, e7⟩ | ⟨hx, hA, hSv, hCd, hSz, e0, e1, e7⟩ | ⟨hx, hA, hSv, hCd, hSz, e0, e1, e7⟩ | ⟨hx, hA, hSv, hCd, hSz, e0, e1, e7⟩ | ⟨hx, hA, hSv, hCd, hSz, e0, e1, e7⟩
    · cases hx
      have HA := Lib.hid (fun W => refHasAck_any (t : Int) W)
      rw [hA] at HA
      obtain ⟨b6, h6⟩ : ∃ b, beBytes 1 (t * 2) = b := ⟨_, rfl⟩
      obtain ⟨b7, h7⟩ : ∃ b, beBytes 3 q = b := ⟨_, rfl⟩
      have l6 := be_len h6; have l7 := be_len h7
      have HB6 := Lib.hid (refBytes_q h6 (by omega) (by decide)); have HB7 := Lib.hid (refBytes_q h7 (by omega) (by decide))
      have hfull : Hd.bytes ⟨s, d, o, c, v, u, t, false, q, ak, sv, code, i0, i1, i2⟩ = A ++ (b6 ++ b7) := by
        obtain ⟨f1, f2, f3⟩ := HSB.out
        rw [HHB.out, f1, f2, f3]
        simp [hA, hSv, hCd, typeN, seqPad, numLen, ackPad, h6, h7]
      have HF := Lib.hid hfull
      clear hfull h6 h7    HHB HSB hA hSv hCd hSz
      go_upto_region 6 with fail
      clear c7
      refine Rg.regionW (by kernel_rfl) [48, 49, 50, 51, 52, 53, 54, 55, 56, 57, 58, 3] (VI [.string (str A), .pointer (some ⟨w.heap.size, 6, none⟩), .int .i64 (t : Nat), .int .i64 (t * 2 : Nat), .int .u64 (t * 2 : Nat), .string (str b6), .pointer (some ⟨w.heap.size, 8, none⟩), .int .u64 (q : Nat), .string (str b7), .string (str (b6 ++ b7)), .string (str (A ++ (b6 ++ b7))), .string (str (A ++ (b6 ++ b7)))] 11 (.string (str A)) W1.heap.size W1) (by kernel_rfl) (fun V hV => VI.start HB.out HB.out.size V ((hV 11).trans rfl)) ⟨?_, ?_, ?_, ?_, ?_, ?_, ?_, ?_, ?_, ?_, ?_, ?_, trivial⟩ ?_
      · intro L V a W hli hdeps hsl hVe hI K1 hk
        have e0 : a.eval (.tmp 3) = .string (str A) := (hVe 11).symm.trans (hI.old hli)
        exact Rg.valJ hk (ex_move _ W _ _ _ rfl e0) (fun V' hV hv => hI.quiet 0 V' hV (by decide) (fun h => absurd h (by decide)) (hv rfl))
      · intro L V a W hli hdeps hsl hVe hI K1 hk
        have e0 : a.eval (.tmp 1) = .pointer (some ⟨w.heap.size, 0, none⟩) := (hsl 1 (by decide)).trans rfl
        exact Rg.valJ hk (ex_field _ W _ w.heap.size 6 (by decide) rfl e0) (fun V' hV hv => hI.quiet 1 V' hV (by decide) (fun h => absurd h (by decide)) (hv rfl))
      · intro L V a W hli hdeps hsl hVe hI K1 hk
        have e0 : a.eval (.tmp 49) = .pointer (some ⟨w.heap.size, 6, none⟩) := (hVe 1).symm.trans (hI.vals 1 (hdeps ⟨1, .data⟩ (by simp) rfl))
        exact Rg.valJ hk (ex_load _ W _ w.heap.size 6 _ _ (.int .i64 (t : Nat)) rfl (.inl rfl) e0 ((HdBlk.below HBK.out hI.bel).cell 6 (.int .i64 (t : Nat)) rfl)) (fun V' hV hv => hI.quiet 2 V' hV (by decide) (fun h => absurd h (by decide)) (hv rfl))
      · intro L V a W hli hdeps hsl hVe hI K1 hk
        have e0 : a.eval (.tmp 50) = .int .i64 (t : Nat) := (hVe 2).symm.trans (hI.vals 2 (hdeps ⟨2, .data⟩ (by simp) rfl))
        exact Rg.valJ hk (ex_mulI _ W _ _ _ (t) (2) (by omega) rfl e0 rfl) (fun V' hV hv => hI.quiet 3 V' hV (by decide) (fun h => absurd h (by decide)) (hv rfl))
      · intro L V a W hli hdeps hsl hVe hI K1 hk
        have e0 : a.eval (.tmp 51) = .int .i64 (t * 2 : Nat) := (hVe 3).symm.trans (hI.vals 3 (hdeps ⟨3, .data⟩ (by simp) rfl))
        exact Rg.valJ hk (ex_convU _ W _ _ _ (by omega) rfl e0) (fun V' hV hv => hI.quiet 4 V' hV (by decide) (fun h => absurd h (by decide)) (hv rfl))
      · intro L V a W hli hdeps hsl hVe hI K1 hk
        have e0 : a.eval (.tmp 52) = .int .u64 (t * 2 : Nat) := (hVe 4).symm.trans (hI.vals 4 (hdeps ⟨4, .data⟩ (by simp) rfl))
        exact callJ hk (ex_bytes _ W _ _ _ _ _ _ rfl e0 rfl rfl) ((HB6.out W).mono fun e w' hh => ⟨_, hh.1, fun V' hV hv => hI.call 5 hh.2 V' hV (by decide) (fun h => absurd h (by decide)) (hv rfl)⟩)
      · intro L V a W hli hdeps hsl hVe hI K1 hk
        have e0 : a.eval (.tmp 1) = .pointer (some ⟨w.heap.size, 0, none⟩) := (hsl 1 (by decide)).trans rfl
        exact Rg.valJ hk (ex_field _ W _ w.heap.size 8 (by decide) rfl e0) (fun V' hV hv => hI.quiet 6 V' hV (by decide) (fun h => absurd h (by decide)) (hv rfl))
      · intro L V a W hli hdeps hsl hVe hI K1 hk
        have e0 : a.eval (.tmp 54) = .pointer (some ⟨w.heap.size, 8, none⟩) := (hVe 6).symm.trans (hI.vals 6 (hdeps ⟨6, .data⟩ (by simp) rfl))
        exact Rg.valJ hk (ex_load _ W _ w.heap.size 8 _ _ (.int .u64 (q : Nat)) rfl (.inr (.inr (.inl rfl))) e0 ((HdBlk.below HBK.out hI.bel).cell 8 (.int .u64 (q : Nat)) rfl)) (fun V' hV hv => hI.quiet 7 V' hV (by decide) (fun h => absurd h (by decide)) (hv rfl))
      · intro L V a W hli hdeps hsl hVe hI K1 hk
        have e0 : a.eval (.tmp 55) = .int .u64 (q : Nat) := (hVe 7).symm.trans (hI.vals 7 (hdeps ⟨7, .data⟩ (by simp) rfl))
        exact callJ hk (ex_bytes _ W _ _ _ _ _ _ rfl e0 rfl rfl) ((HB7.out W).mono fun e w' hh => ⟨_, hh.1, fun V' hV hv => hI.call 8 hh.2 V' hV (by decide) (fun h => absurd h (by decide)) (hv rfl)⟩)
      · intro L V a W hli hdeps hsl hVe hI K1 hk
        have e0 : a.eval (.tmp 53) = .string (str b6) := (hVe 5).symm.trans (hI.vals 5 (hdeps ⟨5, .data⟩ (by simp) rfl))
        have e1 : a.eval (.tmp 56) = .string (str b7) := (hVe 8).symm.trans (hI.vals 8 (hdeps ⟨8, .data⟩ (by simp) rfl))
        exact Rg.valJ hk (ex_addS _ W _ _ _ _ _ (by (try simp only [List.length_append, List.length_cons, List.length_nil]); omega) (by (try simp only [List.length_append, List.length_cons, List.length_nil]); omega) rfl e0 e1) (fun V' hV hv => hI.quiet 9 V' hV (by decide) (fun h => absurd h (by decide)) (hv rfl))
      · intro L V a W hli hdeps hsl hVe hI K1 hk
        have e0 : a.eval (.tmp 48) = .string (str A) := (hVe 0).symm.trans (hI.vals 0 (hdeps ⟨0, .data⟩ (by simp) rfl))
        have e1 : a.eval (.tmp 57) = .string (str (b6 ++ b7)) := (hVe 9).symm.trans (hI.vals 9 (hdeps ⟨9, .data⟩ (by simp) rfl))
        exact Rg.valJ hk (ex_addS _ W _ _ _ _ _ (by (try simp only [List.length_append, List.length_cons, List.length_nil]); omega) (by (try simp only [List.length_append, List.length_cons, List.length_nil]); omega) rfl e0 e1) (fun V' hV hv => hI.quiet 10 V' hV (by decide) (fun h => absurd h (by decide)) (hv rfl))
      · intro L V a W hli hdeps hsl hVe hI K1 hk
        have e0 : a.eval (.tmp 58) = .string (str (A ++ (b6 ++ b7))) := (hVe 10).symm.trans (hI.vals 10 (hdeps ⟨10, .data⟩ (by simp) rfl))
        exact Rg.valJ hk (ex_setV _ W _ _ _ rfl e0) (fun V' hV hv => hI.quiet 11 V' hV (by decide) (fun _ => hdeps ⟨0, .phase⟩ (by simp) rfl) (hv rfl))
      · intro W2 f L V hL hVf hI
        have e3 : f 3 = .string (str (A ++ (b6 ++ b7))) := (hVf 11).symm.trans (hI.vals 11 (hL 11 (by decide)))
        have hb2 := hI.bel
        clear hI hL hVf
        simp only [Rg.puts, List.foldl_cons, List.foldl_nil, Act.put, List.setIfInBounds_toArray, List.set_cons_succ, List.set_cons_zero, e3]
        clear e3
        have HB := Lib.hid hb2; clear hb2
        have hk2 := HdBlk.below HBK.out HB.out
        have c6 := hk2.cell 6 (.int .i64 (t : Int)) rfl
        clear hk2
        obtain ⟨A2, hA2⟩ : ∃ A2, A ++ (b6 ++ b7) = A2 := ⟨_, rfl⟩
        have lA2 : A2.length ≤ 100 := by rw [← hA2]; simp only [List.length_append, List.length_cons, List.length_nil]; omega
        rw [hA2] at HF ⊢
        clear hA2
        go_wp2_with (go_at_call 10; with_reducible refine (HA.out _).mono ?_; rintro e w5 ⟨rfl, rfl⟩)
        go_ret
        exact ⟨by rw [HF.out]; rfl, HBW.out.trans ((HB.out).mono HWS.out)⟩
    · cases hx
      have HA := Lib.hid (fun W => refHasAck_any (t : Int) W)
      rw [hA] at HA
      obtain ⟨b6, h6⟩ : ∃ b, beBytes 1 (t * 2) = b := ⟨_, rfl⟩
      obtain ⟨b7, h7⟩ : ∃ b, beBytes 3 q = b := ⟨_, rfl⟩
      have l6 := be_len h6; have l7 := be_len h7
      have HB6 := Lib.hid (refBytes_q h6 (by omega) (by decide)); have HB7 := Lib.hid (refBytes_q h7 (by omega) (by decide))
      obtain ⟨b8, h8⟩ : ∃ b, beBytes (1 + 0) 0 = b := ⟨_, rfl⟩
      obtain ⟨b9, h9⟩ : ∃ b, beBytes 3 ak = b := ⟨_, rfl⟩
      have hsa : beBytes 4 ak = b8 ++ b9 := by rw [← h8, ← h9]; exact beBytes_zero 1 3 ak hak
      have l8 := be_len h8; have l9 := be_len h9
      have HB8 := Lib.hid (refBytes_q h8 (by omega) (by decide)); have HB9 := Lib.hid (refBytes_q h9 (by omega) (by decide))
      have hfull : Hd.bytes ⟨s, d, o, c, v, u, t, false, q, ak, sv, code, i0, i1, i2⟩ = (A ++ (b6 ++ b7)) ++ (b8 ++ b9) := by
        obtain ⟨f1, f2, f3⟩ := HSB.out
        rw [HHB.out, f1, f2, f3]
        simp [hA, hSv, hCd, typeN, seqPad, numLen, ackPad, h6, h7, hsa]
      have HF := Lib.hid hfull
      clear hfull h6 h7  h8 h9 hsa  HHB HSB hA hSv hCd hSz
      go_upto_region 6 with fail
      clear c7
      refine Rg.regionW (by kernel_rfl) [48, 49, 50, 51, 52, 53, 54, 55, 56, 57, 58, 3] (VI [.string (str A), .pointer (some ⟨w.heap.size, 6, none⟩), .int .i64 (t : Nat), .int .i64 (t * 2 : Nat), .int .u64 (t * 2 : Nat), .string (str b6), .pointer (some ⟨w.heap.size, 8, none⟩), .int .u64 (q : Nat), .string (str b7), .string (str (b6 ++ b7)), .string (str (A ++ (b6 ++ b7))), .string (str (A ++ (b6 ++ b7)))] 11 (.string (str A)) W1.heap.size W1) (by kernel_rfl) (fun V hV => VI.start HB.out HB.out.size V ((hV 11).trans rfl)) ⟨?_, ?_, ?_, ?_, ?_, ?_, ?_, ?_, ?_, ?_, ?_, ?_, trivial⟩ ?_
      · intro L V a W hli hdeps hsl hVe hI K1 hk
        have e0 : a.eval (.tmp 3) = .string (str A) := (hVe 11).symm.trans (hI.old hli)
        exact Rg.valJ hk (ex_move _ W _ _ _ rfl e0) (fun V' hV hv => hI.quiet 0 V' hV (by decide) (fun h => absurd h (by decide)) (hv rfl))
      · intro L V a W hli hdeps hsl hVe hI K1 hk
        have e0 : a.eval (.tmp 1) = .pointer (some ⟨w.heap.size, 0, none⟩) := (hsl 1 (by decide)).trans rfl
        exact Rg.valJ hk (ex_field _ W _ w.heap.size 6 (by decide) rfl e0) (fun V' hV hv => hI.quiet 1 V' hV (by decide) (fun h => absurd h (by decide)) (hv rfl))
      · intro L V a W hli hdeps hsl hVe hI K1 hk
        have e0 : a.eval (.tmp 49) = .pointer (some ⟨w.heap.size, 6, none⟩) := (hVe 1).symm.trans (hI.vals 1 (hdeps ⟨1, .data⟩ (by simp) rfl))
        exact Rg.valJ hk (ex_load _ W _ w.heap.size 6 _ _ (.int .i64 (t : Nat)) rfl (.inl rfl) e0 ((HdBlk.below HBK.out hI.bel).cell 6 (.int .i64 (t : Nat)) rfl)) (fun V' hV hv => hI.quiet 2 V' hV (by decide) (fun h => absurd h (by decide)) (hv rfl))
      · intro L V a W hli hdeps hsl hVe hI K1 hk
        have e0 : a.eval (.tmp 50) = .int .i64 (t : Nat) := (hVe 2).symm.trans (hI.vals 2 (hdeps ⟨2, .data⟩ (by simp) rfl))
        exact Rg.valJ hk (ex_mulI _ W _ _ _ (t) (2) (by omega) rfl e0 rfl) (fun V' hV hv => hI.quiet 3 V' hV (by decide) (fun h => absurd h (by decide)) (hv rfl))
      · intro L V a W hli hdeps hsl hVe hI K1 hk
        have e0 : a.eval (.tmp 51) = .int .i64 (t * 2 : Nat) := (hVe 3).symm.trans (hI.vals 3 (hdeps ⟨3, .data⟩ (by simp) rfl))
        exact Rg.valJ hk (ex_convU _ W _ _ _ (by omega) rfl e0) (fun V' hV hv => hI.quiet 4 V' hV (by decide) (fun h => absurd h (by decide)) (hv rfl))
      · intro L V a W hli hdeps hsl hVe hI K1 hk
        have e0 : a.eval (.tmp 52) = .int .u64 (t * 2 : Nat) := (hVe 4).symm.trans (hI.vals 4 (hdeps ⟨4, .data⟩ (by simp) rfl))
        exact callJ hk (ex_bytes _ W _ _ _ _ _ _ rfl e0 rfl rfl) ((HB6.out W).mono fun e w' hh => ⟨_, hh.1, fun V' hV hv => hI.call 5 hh.2 V' hV (by decide) (fun h => absurd h (by decide)) (hv rfl)⟩)
      · intro L V a W hli hdeps hsl hVe hI K1 hk
        have e0 : a.eval (.tmp 1) = .pointer (some ⟨w.heap.size, 0, none⟩) := (hsl 1 (by decide)).trans rfl
        exact Rg.valJ hk (ex_field _ W _ w.heap.size 8 (by decide) rfl e0) (fun V' hV hv => hI.quiet 6 V' hV (by decide) (fun h => absurd h (by decide)) (hv rfl))
      · intro L V a W hli hdeps hsl hVe hI K1 hk
        have e0 : a.eval (.tmp 54) = .pointer (some ⟨w.heap.size, 8, none⟩) := (hVe 6).symm.trans (hI.vals 6 (hdeps ⟨6, .data⟩ (by simp) rfl))
        exact Rg.valJ hk (ex_load _ W _ w.heap.size 8 _ _ (.int .u64 (q : Nat)) rfl (.inr (.inr (.inl rfl))) e0 ((HdBlk.below HBK.out hI.bel).cell 8 (.int .u64 (q : Nat)) rfl)) (fun V' hV hv => hI.quiet 7 V' hV (by decide) (fun h => absurd h (by decide)) (hv rfl))
      · intro L V a W hli hdeps hsl hVe hI K1 hk
        have e0 : a.eval (.tmp 55) = .int .u64 (q : Nat) := (hVe 7).symm.trans (hI.vals 7 (hdeps ⟨7, .data⟩ (by simp) rfl))
        exact callJ hk (ex_bytes _ W _ _ _ _ _ _ rfl e0 rfl rfl) ((HB7.out W).mono fun e w' hh => ⟨_, hh.1, fun V' hV hv => hI.call 8 hh.2 V' hV (by decide) (fun h => absurd h (by decide)) (hv rfl)⟩)
      · intro L V a W hli hdeps hsl hVe hI K1 hk
        have e0 : a.eval (.tmp 53) = .string (str b6) := (hVe 5).symm.trans (hI.vals 5 (hdeps ⟨5, .data⟩ (by simp) rfl))
        have e1 : a.eval (.tmp 56) = .string (str b7) := (hVe 8).symm.trans (hI.vals 8 (hdeps ⟨8, .data⟩ (by simp) rfl))
        exact Rg.valJ hk (ex_addS _ W _ _ _ _ _ (by (try simp only [List.length_append, List.length_cons, List.length_nil]); omega) (by (try simp only [List.length_append, List.length_cons, List.length_nil]); omega) rfl e0 e1) (fun V' hV hv => hI.quiet 9 V' hV (by decide) (fun h => absurd h (by decide)) (hv rfl))
      · intro L V a W hli hdeps hsl hVe hI K1 hk
        have e0 : a.eval (.tmp 48) = .string (str A) := (hVe 0).symm.trans (hI.vals 0 (hdeps ⟨0, .data⟩ (by simp) rfl))
        have e1 : a.eval (.tmp 57) = .string (str (b6 ++ b7)) := (hVe 9).symm.trans (hI.vals 9 (hdeps ⟨9, .data⟩ (by simp) rfl))
        exact Rg.valJ hk (ex_addS _ W _ _ _ _ _ (by (try simp only [List.length_append, List.length_cons, List.length_nil]); omega) (by (try simp only [List.length_append, List.length_cons, List.length_nil]); omega) rfl e0 e1) (fun V' hV hv => hI.quiet 10 V' hV (by decide) (fun h => absurd h (by decide)) (hv rfl))
      · intro L V a W hli hdeps hsl hVe hI K1 hk
        have e0 : a.eval (.tmp 58) = .string (str (A ++ (b6 ++ b7))) := (hVe 10).symm.trans (hI.vals 10 (hdeps ⟨10, .data⟩ (by simp) rfl))
        exact Rg.valJ hk (ex_setV _ W _ _ _ rfl e0) (fun V' hV hv => hI.quiet 11 V' hV (by decide) (fun _ => hdeps ⟨0, .phase⟩ (by simp) rfl) (hv rfl))
      · intro W2 f L V hL hVf hI
        have e3 : f 3 = .string (str (A ++ (b6 ++ b7))) := (hVf 11).symm.trans (hI.vals 11 (hL 11 (by decide)))
        have hb2 := hI.bel
        clear hI hL hVf
        simp only [Rg.puts, List.foldl_cons, List.foldl_nil, Act.put, List.setIfInBounds_toArray, List.set_cons_succ, List.set_cons_zero, e3]
        clear e3
        have HB := Lib.hid hb2; clear hb2
        have hk2 := HdBlk.below HBK.out HB.out
        have c6 := hk2.cell 6 (.int .i64 (t : Int)) rfl
        clear hk2
        obtain ⟨A2, hA2⟩ : ∃ A2, A ++ (b6 ++ b7) = A2 := ⟨_, rfl⟩
        have lA2 : A2.length ≤ 100 := by rw [← hA2]; simp only [List.length_append, List.length_cons, List.length_nil]; omega
        rw [hA2] at HF ⊢
        clear hA2
        go_upto_region 8 with (go_at_call 10; with_reducible refine (HA.out _).mono ?_; rintro e w5 ⟨rfl, rfl⟩)
        clear c6
        refine Rg.regionW (by kernel_rfl) [62, 63, 64, 65, 66, 67, 68, 69, 70, 71, 72, 3] (VI [.string (str A2), .int .i64 (3 : Nat), .int .i64 (0 : Nat), .int .i64 (1 + 0 : Nat), .string (str b8), .pointer (some ⟨w.heap.size, 9, none⟩), .int .u64 (ak : Nat), .int .i64 (3 : Nat), .string (str b9), .string (str (b8 ++ b9)), .string (str (A2 ++ (b8 ++ b9))), .string (str (A2 ++ (b8 ++ b9)))] 11 (.string (str A2)) W1.heap.size W1) (by kernel_rfl) (fun V hV => VI.start HB.out HB.out.size V ((hV 11).trans rfl)) ⟨?_, ?_, ?_, ?_, ?_, ?_, ?_, ?_, ?_, ?_, ?_, ?_, trivial⟩ ?_
        · intro L V a W hli hdeps hsl hVe hI K1 hk
          have e0 : a.eval (.tmp 3) = .string (str A2) := (hVe 11).symm.trans (hI.old hli)
          exact Rg.valJ hk (ex_move _ W _ _ _ rfl e0) (fun V' hV hv => hI.quiet 0 V' hV (by decide) (fun h => absurd h (by decide)) (hv rfl))
        · intro L V a W hli hdeps hsl hVe hI K1 hk
          have e0 : a.eval (.tmp 4) = .int .i64 (3 : Nat) := (hsl 4 (by decide)).trans rfl
          exact Rg.valJ hk (ex_move _ W _ _ _ rfl e0) (fun V' hV hv => hI.quiet 1 V' hV (by decide) (fun h => absurd h (by decide)) (hv rfl))
        · intro L V a W hli hdeps hsl hVe hI K1 hk
          have e0 : a.eval (.tmp 63) = .int .i64 (3 : Nat) := (hVe 1).symm.trans (hI.vals 1 (hdeps ⟨1, .data⟩ (by simp) rfl))
          exact Rg.valJ hk (ex_quo6 _ W _ _ _ _ (.inr ⟨rfl, rfl⟩) rfl e0 rfl) (fun V' hV hv => hI.quiet 2 V' hV (by decide) (fun h => absurd h (by decide)) (hv rfl))
        · intro L V a W hli hdeps hsl hVe hI K1 hk
          have e1 : a.eval (.tmp 64) = .int .i64 (0 : Nat) := (hVe 2).symm.trans (hI.vals 2 (hdeps ⟨2, .data⟩ (by simp) rfl))
          exact Rg.valJ hk (ex_addI _ W _ _ _ (1) (0) (by omega) rfl rfl e1) (fun V' hV hv => hI.quiet 3 V' hV (by decide) (fun h => absurd h (by decide)) (hv rfl))
        · intro L V a W hli hdeps hsl hVe hI K1 hk
          have e1 : a.eval (.tmp 65) = .int .i64 (1 + 0 : Nat) := (hVe 3).symm.trans (hI.vals 3 (hdeps ⟨3, .data⟩ (by simp) rfl))
          exact callJ hk (ex_bytes _ W _ _ _ _ _ _ rfl rfl e1 rfl) ((HB8.out W).mono fun e w' hh => ⟨_, hh.1, fun V' hV hv => hI.call 4 hh.2 V' hV (by decide) (fun h => absurd h (by decide)) (hv rfl)⟩)
        · intro L V a W hli hdeps hsl hVe hI K1 hk
          have e0 : a.eval (.tmp 1) = .pointer (some ⟨w.heap.size, 0, none⟩) := (hsl 1 (by decide)).trans rfl
          exact Rg.valJ hk (ex_field _ W _ w.heap.size 9 (by decide) rfl e0) (fun V' hV hv => hI.quiet 5 V' hV (by decide) (fun h => absurd h (by decide)) (hv rfl))
        · intro L V a W hli hdeps hsl hVe hI K1 hk
          have e0 : a.eval (.tmp 67) = .pointer (some ⟨w.heap.size, 9, none⟩) := (hVe 5).symm.trans (hI.vals 5 (hdeps ⟨5, .data⟩ (by simp) rfl))
          exact Rg.valJ hk (ex_load _ W _ w.heap.size 9 _ _ (.int .u64 (ak : Nat)) rfl (.inr (.inr (.inl rfl))) e0 ((HdBlk.below HBK.out hI.bel).cell 9 (.int .u64 (ak : Nat)) rfl)) (fun V' hV hv => hI.quiet 6 V' hV (by decide) (fun h => absurd h (by decide)) (hv rfl))
        · intro L V a W hli hdeps hsl hVe hI K1 hk
          have e0 : a.eval (.tmp 4) = .int .i64 (3 : Nat) := (hsl 4 (by decide)).trans rfl
          exact Rg.valJ hk (ex_move _ W _ _ _ rfl e0) (fun V' hV hv => hI.quiet 7 V' hV (by decide) (fun h => absurd h (by decide)) (hv rfl))
        · intro L V a W hli hdeps hsl hVe hI K1 hk
          have e0 : a.eval (.tmp 68) = .int .u64 (ak : Nat) := (hVe 6).symm.trans (hI.vals 6 (hdeps ⟨6, .data⟩ (by simp) rfl))
          have e1 : a.eval (.tmp 69) = .int .i64 (3 : Nat) := (hVe 7).symm.trans (hI.vals 7 (hdeps ⟨7, .data⟩ (by simp) rfl))
          exact callJ hk (ex_bytes _ W _ _ _ _ _ _ rfl e0 e1 rfl) ((HB9.out W).mono fun e w' hh => ⟨_, hh.1, fun V' hV hv => hI.call 8 hh.2 V' hV (by decide) (fun h => absurd h (by decide)) (hv rfl)⟩)
        · intro L V a W hli hdeps hsl hVe hI K1 hk
          have e0 : a.eval (.tmp 66) = .string (str b8) := (hVe 4).symm.trans (hI.vals 4 (hdeps ⟨4, .data⟩ (by simp) rfl))
          have e1 : a.eval (.tmp 70) = .string (str b9) := (hVe 8).symm.trans (hI.vals 8 (hdeps ⟨8, .data⟩ (by simp) rfl))
          exact Rg.valJ hk (ex_addS _ W _ _ _ _ _ (by (try simp only [List.length_append, List.length_cons, List.length_nil]); omega) (by (try simp only [List.length_append, List.length_cons, List.length_nil]); omega) rfl e0 e1) (fun V' hV hv => hI.quiet 9 V' hV (by decide) (fun h => absurd h (by decide)) (hv rfl))
        · intro L V a W hli hdeps hsl hVe hI K1 hk
          have e0 : a.eval (.tmp 62) = .string (str A2) := (hVe 0).symm.trans (hI.vals 0 (hdeps ⟨0, .data⟩ (by simp) rfl))
          have e1 : a.eval (.tmp 71) = .string (str (b8 ++ b9)) := (hVe 9).symm.trans (hI.vals 9 (hdeps ⟨9, .data⟩ (by simp) rfl))
          exact Rg.valJ hk (ex_addS _ W _ _ _ _ _ (by (try simp only [List.length_append, List.length_cons, List.length_nil]); omega) (by (try simp only [List.length_append, List.length_cons, List.length_nil]); omega) rfl e0 e1) (fun V' hV hv => hI.quiet 10 V' hV (by decide) (fun h => absurd h (by decide)) (hv rfl))
        · intro L V a W hli hdeps hsl hVe hI K1 hk
          have e0 : a.eval (.tmp 72) = .string (str (A2 ++ (b8 ++ b9))) := (hVe 10).symm.trans (hI.vals 10 (hdeps ⟨10, .data⟩ (by simp) rfl))
          exact Rg.valJ hk (ex_setV _ W _ _ _ rfl e0) (fun V' hV hv => hI.quiet 11 V' hV (by decide) (fun _ => hdeps ⟨0, .phase⟩ (by simp) rfl) (hv rfl))
        · intro W2 f L V hL hVf hI
          have e3 : f 3 = .string (str (A2 ++ (b8 ++ b9))) := (hVf 11).symm.trans (hI.vals 11 (hL 11 (by decide)))
          have hb2 := hI.bel
          clear hI hL hVf
          simp only [Rg.puts, List.foldl_cons, List.foldl_nil, Act.put, List.setIfInBounds_toArray, List.set_cons_succ, List.set_cons_zero, e3]
          clear e3
          have HB := Lib.hid hb2; clear hb2
          have hk2 := HdBlk.below HBK.out HB.out
          have c6 := hk2.cell 6 (.int .i64 (t : Int)) rfl
          clear hk2
          obtain ⟨A3, hA3⟩ : ∃ A3, A2 ++ (b8 ++ b9) = A3 := ⟨_, rfl⟩
          have lA3 : A3.length ≤ 200 := by rw [← hA3]; simp only [List.length_append, List.length_cons, List.length_nil]; omega
          rw [hA3] at HF ⊢
          clear hA3
          go_wp2_with (go_at_call 10; with_reducible refine (HA.out _).mono ?_; rintro e w5 ⟨rfl, rfl⟩)
          go_ret
          exact ⟨by rw [HF.out]; rfl, HBW.out.trans ((HB.out).mono HWS.out)⟩
    · cases hx
      have HA := Lib.hid (fun W => refHasAck_any (t : Int) W)
      rw [hA] at HA
      obtain ⟨b6, h6⟩ : ∃ b, beBytes 1 (t * 2 + 1) = b := ⟨_, rfl⟩
      obtain ⟨b7, h7⟩ : ∃ b, beBytes 6 q = b := ⟨_, rfl⟩
      have hsq : beBytes 7 q = [0] ++ b7 := by rw [← h7]; exact beBytes_zero 1 6 q hq
      have l6 := be_len h6; have l7 := be_len h7
      have HB6 := Lib.hid (refBytes_q h6 (by omega) (by decide)); have HB7 := Lib.hid (refBytes_q h7 (by omega) (by decide))
      obtain ⟨b10, h10⟩ : ∃ b, beBytes 4 sv = b := ⟨_, rfl⟩
      have l10 := be_len h10
      have HB10 : Hid (∀ W, Calls Tryz.prog 49 #[.int .u64 (sv : Int), .int .i64 4] W fun e w' => e = .returned (.string (str b10)) ∧ Below W.heap.size W w') := Lib.hid (refBytes_q h10 (by omega) (by decide))
      have hfull : Hd.bytes ⟨s, d, o, c, v, u, t, true, q, ak, sv, code, i0, i1, i2⟩ = (A ++ (b6 ++ [0] ++ b7)) ++ b10 := by
        obtain ⟨f1, f2, f3⟩ := HSB.out
        rw [HHB.out, f1, f2, f3]
        simp [hA, hSv, hCd, typeN, seqPad, numLen, ackPad, h6, hsq, h10]
      have HF := Lib.hid hfull
      clear hfull h6 h7 hsq  h10 HHB HSB hA hSv hCd hSz
      go_upto_region 4 with fail
      clear c7
      refine Rg.regionW (by kernel_rfl) [35, 36, 37, 38, 39, 40, 41, 42, 43, 44, 45, 46, 47, 3] (VI [.string (str A), .pointer (some ⟨w.heap.size, 6, none⟩), .int .i64 (t : Nat), .int .i64 (t * 2 : Nat), .int .i64 (t * 2 + 1 : Nat), .int .u64 (t * 2 + 1 : Nat), .string (str b6), .string (str (b6 ++ [0])), .pointer (some ⟨w.heap.size, 8, none⟩), .int .u64 (q : Nat), .string (str b7), .string (str (b6 ++ [0] ++ b7)), .string (str (A ++ (b6 ++ [0] ++ b7))), .string (str (A ++ (b6 ++ [0] ++ b7)))] 13 (.string (str A)) W1.heap.size W1) (by kernel_rfl) (fun V hV => VI.start HB.out HB.out.size V ((hV 13).trans rfl)) ⟨?_, ?_, ?_, ?_, ?_, ?_, ?_, ?_, ?_, ?_, ?_, ?_, ?_, ?_, trivial⟩ ?_
      · intro L V a W hli hdeps hsl hVe hI K1 hk
        have e0 : a.eval (.tmp 3) = .string (str A) := (hVe 13).symm.trans (hI.old hli)
        exact Rg.valJ hk (ex_move _ W _ _ _ rfl e0) (fun V' hV hv => hI.quiet 0 V' hV (by decide) (fun h => absurd h (by decide)) (hv rfl))
      · intro L V a W hli hdeps hsl hVe hI K1 hk
        have e0 : a.eval (.tmp 1) = .pointer (some ⟨w.heap.size, 0, none⟩) := (hsl 1 (by decide)).trans rfl
        exact Rg.valJ hk (ex_field _ W _ w.heap.size 6 (by decide) rfl e0) (fun V' hV hv => hI.quiet 1 V' hV (by decide) (fun h => absurd h (by decide)) (hv rfl))
      · intro L V a W hli hdeps hsl hVe hI K1 hk
        have e0 : a.eval (.tmp 36) = .pointer (some ⟨w.heap.size, 6, none⟩) := (hVe 1).symm.trans (hI.vals 1 (hdeps ⟨1, .data⟩ (by simp) rfl))
        exact Rg.valJ hk (ex_load _ W _ w.heap.size 6 _ _ (.int .i64 (t : Nat)) rfl (.inl rfl) e0 ((HdBlk.below HBK.out hI.bel).cell 6 (.int .i64 (t : Nat)) rfl)) (fun V' hV hv => hI.quiet 2 V' hV (by decide) (fun h => absurd h (by decide)) (hv rfl))
      · intro L V a W hli hdeps hsl hVe hI K1 hk
        have e0 : a.eval (.tmp 37) = .int .i64 (t : Nat) := (hVe 2).symm.trans (hI.vals 2 (hdeps ⟨2, .data⟩ (by simp) rfl))
        exact Rg.valJ hk (ex_mulI _ W _ _ _ (t) (2) (by omega) rfl e0 rfl) (fun V' hV hv => hI.quiet 3 V' hV (by decide) (fun h => absurd h (by decide)) (hv rfl))
      · intro L V a W hli hdeps hsl hVe hI K1 hk
        have e0 : a.eval (.tmp 38) = .int .i64 (t * 2 : Nat) := (hVe 3).symm.trans (hI.vals 3 (hdeps ⟨3, .data⟩ (by simp) rfl))
        exact Rg.valJ hk (ex_addI _ W _ _ _ (t * 2) (1) (by omega) rfl e0 rfl) (fun V' hV hv => hI.quiet 4 V' hV (by decide) (fun h => absurd h (by decide)) (hv rfl))
      · intro L V a W hli hdeps hsl hVe hI K1 hk
        have e0 : a.eval (.tmp 39) = .int .i64 (t * 2 + 1 : Nat) := (hVe 4).symm.trans (hI.vals 4 (hdeps ⟨4, .data⟩ (by simp) rfl))
        exact Rg.valJ hk (ex_convU _ W _ _ _ (by omega) rfl e0) (fun V' hV hv => hI.quiet 5 V' hV (by decide) (fun h => absurd h (by decide)) (hv rfl))
      · intro L V a W hli hdeps hsl hVe hI K1 hk
        have e0 : a.eval (.tmp 40) = .int .u64 (t * 2 + 1 : Nat) := (hVe 5).symm.trans (hI.vals 5 (hdeps ⟨5, .data⟩ (by simp) rfl))
        exact callJ hk (ex_bytes _ W _ _ _ _ _ _ rfl e0 rfl rfl) ((HB6.out W).mono fun e w' hh => ⟨_, hh.1, fun V' hV hv => hI.call 6 hh.2 V' hV (by decide) (fun h => absurd h (by decide)) (hv rfl)⟩)
      · intro L V a W hli hdeps hsl hVe hI K1 hk
        have e0 : a.eval (.tmp 41) = .string (str b6) := (hVe 6).symm.trans (hI.vals 6 (hdeps ⟨6, .data⟩ (by simp) rfl))
        exact Rg.valJ hk (ex_addS _ W _ _ _ _ _ (by (try simp only [List.length_append, List.length_cons, List.length_nil]); omega) (by (try simp only [List.length_append, List.length_cons, List.length_nil]); omega) rfl e0 rfl) (fun V' hV hv => hI.quiet 7 V' hV (by decide) (fun h => absurd h (by decide)) (hv rfl))
      · intro L V a W hli hdeps hsl hVe hI K1 hk
        have e0 : a.eval (.tmp 1) = .pointer (some ⟨w.heap.size, 0, none⟩) := (hsl 1 (by decide)).trans rfl
        exact Rg.valJ hk (ex_field _ W _ w.heap.size 8 (by decide) rfl e0) (fun V' hV hv => hI.quiet 8 V' hV (by decide) (fun h => absurd h (by decide)) (hv rfl))
      · intro L V a W hli hdeps hsl hVe hI K1 hk
        have e0 : a.eval (.tmp 43) = .pointer (some ⟨w.heap.size, 8, none⟩) := (hVe 8).symm.trans (hI.vals 8 (hdeps ⟨8, .data⟩ (by simp) rfl))
        exact Rg.valJ hk (ex_load _ W _ w.heap.size 8 _ _ (.int .u64 (q : Nat)) rfl (.inr (.inr (.inl rfl))) e0 ((HdBlk.below HBK.out hI.bel).cell 8 (.int .u64 (q : Nat)) rfl)) (fun V' hV hv => hI.quiet 9 V' hV (by decide) (fun h => absurd h (by decide)) (hv rfl))
      · intro L V a W hli hdeps hsl hVe hI K1 hk
        have e0 : a.eval (.tmp 44) = .int .u64 (q : Nat) := (hVe 9).symm.trans (hI.vals 9 (hdeps ⟨9, .data⟩ (by simp) rfl))
        exact callJ hk (ex_bytes _ W _ _ _ _ _ _ rfl e0 rfl rfl) ((HB7.out W).mono fun e w' hh => ⟨_, hh.1, fun V' hV hv => hI.call 10 hh.2 V' hV (by decide) (fun h => absurd h (by decide)) (hv rfl)⟩)
      · intro L V a W hli hdeps hsl hVe hI K1 hk
        have e0 : a.eval (.tmp 42) = .string (str (b6 ++ [0])) := (hVe 7).symm.trans (hI.vals 7 (hdeps ⟨7, .data⟩ (by simp) rfl))
        have e1 : a.eval (.tmp 45) = .string (str b7) := (hVe 10).symm.trans (hI.vals 10 (hdeps ⟨10, .data⟩ (by simp) rfl))
        exact Rg.valJ hk (ex_addS _ W _ _ _ _ _ (by (try simp only [List.length_append, List.length_cons, List.length_nil]); omega) (by (try simp only [List.length_append, List.length_cons, List.length_nil]); omega) rfl e0 e1) (fun V' hV hv => hI.quiet 11 V' hV (by decide) (fun h => absurd h (by decide)) (hv rfl))
      · intro L V a W hli hdeps hsl hVe hI K1 hk
        have e0 : a.eval (.tmp 35) = .string (str A) := (hVe 0).symm.trans (hI.vals 0 (hdeps ⟨0, .data⟩ (by simp) rfl))
        have e1 : a.eval (.tmp 46) = .string (str (b6 ++ [0] ++ b7)) := (hVe 11).symm.trans (hI.vals 11 (hdeps ⟨11, .data⟩ (by simp) rfl))
        exact Rg.valJ hk (ex_addS _ W _ _ _ _ _ (by (try simp only [List.length_append, List.length_cons, List.length_nil]); omega) (by (try simp only [List.length_append, List.length_cons, List.length_nil]); omega) rfl e0 e1) (fun V' hV hv => hI.quiet 12 V' hV (by decide) (fun h => absurd h (by decide)) (hv rfl))
      · intro L V a W hli hdeps hsl hVe hI K1 hk
        have e0 : a.eval (.tmp 47) = .string (str (A ++ (b6 ++ [0] ++ b7))) := (hVe 12).symm.trans (hI.vals 12 (hdeps ⟨12, .data⟩ (by simp) rfl))
        exact Rg.valJ hk (ex_setV _ W _ _ _ rfl e0) (fun V' hV hv => hI.quiet 13 V' hV (by decide) (fun _ => hdeps ⟨0, .phase⟩ (by simp) rfl) (hv rfl))
      · intro W2 f L V hL hVf hI
        have e3 : f 3 = .string (str (A ++ (b6 ++ [0] ++ b7))) := (hVf 13).symm.trans (hI.vals 13 (hL 13 (by decide)))
        have hb2 := hI.bel
        clear hI hL hVf
        simp only [Rg.puts, List.foldl_cons, List.foldl_nil, Act.put, List.setIfInBounds_toArray, List.set_cons_succ, List.set_cons_zero, e3]
        clear e3
        have HB := Lib.hid hb2; clear hb2
        have hk2 := HdBlk.below HBK.out HB.out
        have c6 := hk2.cell 6 (.int .i64 (t : Int)) rfl
        clear hk2
        obtain ⟨A2, hA2⟩ : ∃ A2, A ++ (b6 ++ [0] ++ b7) = A2 := ⟨_, rfl⟩
        have lA2 : A2.length ≤ 100 := by rw [← hA2]; simp only [List.length_append, List.length_cons, List.length_nil]; omega
        rw [hA2] at HF ⊢
        clear hA2
        have c10 := (HdBlk.below HBK.out HB.out).cell 10 (.int .u32 (sv : Int)) rfl
        have hns : ¬ 9223372036854775807 < (str A2).size + (str b10).size := by rw [str_size, str_size]; omega
        go_wp2_with (first | (go_at_call 10; with_reducible refine (HA.out _).mono ?_; rintro e w5 ⟨rfl, rfl⟩) | (go_at_call 49; with_reducible refine (HB10.out _).mono ?_; rintro e w6 ⟨rfl, hb6⟩))
        go_ret
        refine ⟨?_, HBW.out.trans ((HB.out.trans (hb6.mono HB.out.size)).mono HWS.out)⟩
        rw [HF.out]
        exact ret_str (str_append _ _)
    · cases hx
      have HA := Lib.hid (fun W => refHasAck_any (t : Int) W)
      rw [hA] at HA
      obtain ⟨b6, h6⟩ : ∃ b, beBytes 1 (t * 2 + 1) = b := ⟨_, rfl⟩
      obtain ⟨b7, h7⟩ : ∃ b, beBytes 6 q = b := ⟨_, rfl⟩
      have hsq : beBytes 7 q = [0] ++ b7 := by rw [← h7]; exact beBytes_zero 1 6 q hq
      have l6 := be_len h6; have l7 := be_len h7
      have HB6 := Lib.hid (refBytes_q h6 (by omega) (by decide)); have HB7 := Lib.hid (refBytes_q h7 (by omega) (by decide))
      obtain ⟨b8, h8⟩ : ∃ b, beBytes (1 + 1) 0 = b := ⟨_, rfl⟩
      obtain ⟨b9, h9⟩ : ∃ b, beBytes 6 ak = b := ⟨_, rfl⟩
      have hsa : beBytes 8 ak = b8 ++ b9 := by rw [← h8, ← h9]; exact beBytes_zero 2 6 ak hak
      have l8 := be_len h8; have l9 := be_len h9
      have HB8 := Lib.hid (refBytes_q h8 (by omega) (by decide)); have HB9 := Lib.hid (refBytes_q h9 (by omega) (by decide))
      obtain ⟨b10, h10⟩ : ∃ b, beBytes 4 sv = b := ⟨_, rfl⟩
      have l10 := be_len h10
      have HB10 : Hid (∀ W, Calls Tryz.prog 49 #[.int .u64 (sv : Int), .int .i64 4] W fun e w' => e = .returned (.string (str b10)) ∧ Below W.heap.size W w') := Lib.hid (refBytes_q h10 (by omega) (by decide))
      have hfull : Hd.bytes ⟨s, d, o, c, v, u, t, true, q, ak, sv, code, i0, i1, i2⟩ = ((A ++ (b6 ++ [0] ++ b7)) ++ (b8 ++ b9)) ++ b10 := by
        obtain ⟨f1, f2, f3⟩ := HSB.out
        rw [HHB.out, f1, f2, f3]
        simp [hA, hSv, hCd, typeN, seqPad, numLen, ackPad, h6, hsq, hsa, h10]
      have HF := Lib.hid hfull
      clear hfull h6 h7 hsq h8 h9 hsa h10 HHB HSB hA hSv hCd hSz
      go_upto_region 4 with fail
      clear c7
      refine Rg.regionW (by kernel_rfl) [35, 36, 37, 38, 39, 40, 41, 42, 43, 44, 45, 46, 47, 3] (VI [.string (str A), .pointer (some ⟨w.heap.size, 6, none⟩), .int .i64 (t : Nat), .int .i64 (t * 2 : Nat), .int .i64 (t * 2 + 1 : Nat), .int .u64 (t * 2 + 1 : Nat), .string (str b6), .string (str (b6 ++ [0])), .pointer (some ⟨w.heap.size, 8, none⟩), .int .u64 (q : Nat), .string (str b7), .string (str (b6 ++ [0] ++ b7)), .string (str (A ++ (b6 ++ [0] ++ b7))), .string (str (A ++ (b6 ++ [0] ++ b7)))] 13 (.string (str A)) W1.heap.size W1) (by kernel_rfl) (fun V hV => VI.start HB.out HB.out.size V ((hV 13).trans rfl)) ⟨?_, ?_, ?_, ?_, ?_, ?_, ?_, ?_, ?_, ?_, ?_, ?_, ?_, ?_, trivial⟩ ?_
      · intro L V a W hli hdeps hsl hVe hI K1 hk
        have e0 : a.eval (.tmp 3) = .string (str A) := (hVe 13).symm.trans (hI.old hli)
        exact Rg.valJ hk (ex_move _ W _ _ _ rfl e0) (fun V' hV hv => hI.quiet 0 V' hV (by decide) (fun h => absurd h (by decide)) (hv rfl))
      · intro L V a W hli hdeps hsl hVe hI K1 hk
        have e0 : a.eval (.tmp 1) = .pointer (some ⟨w.heap.size, 0, none⟩) := (hsl 1 (by decide)).trans rfl
        exact Rg.valJ hk (ex_field _ W _ w.heap.size 6 (by decide) rfl e0) (fun V' hV hv => hI.quiet 1 V' hV (by decide) (fun h => absurd h (by decide)) (hv rfl))
      · intro L V a W hli hdeps hsl hVe hI K1 hk
        have e0 : a.eval (.tmp 36) = .pointer (some ⟨w.heap.size, 6, none⟩) := (hVe 1).symm.trans (hI.vals 1 (hdeps ⟨1, .data⟩ (by simp) rfl))
        exact Rg.valJ hk (ex_load _ W _ w.heap.size 6 _ _ (.int .i64 (t : Nat)) rfl (.inl rfl) e0 ((HdBlk.below HBK.out hI.bel).cell 6 (.int .i64 (t : Nat)) rfl)) (fun V' hV hv => hI.quiet 2 V' hV (by decide) (fun h => absurd h (by decide)) (hv rfl))
      · intro L V a W hli hdeps hsl hVe hI K1 hk
        have e0 : a.eval (.tmp 37) = .int .i64 (t : Nat) := (hVe 2).symm.trans (hI.vals 2 (hdeps ⟨2, .data⟩ (by simp) rfl))
        exact Rg.valJ hk (ex_mulI _ W _ _ _ (t) (2) (by omega) rfl e0 rfl) (fun V' hV hv => hI.quiet 3 V' hV (by decide) (fun h => absurd h (by decide)) (hv rfl))
      · intro L V a W hli hdeps hsl hVe hI K1 hk
        have e0 : a.eval (.tmp 38) = .int .i64 (t * 2 : Nat) := (hVe 3).symm.trans (hI.vals 3 (hdeps ⟨3, .data⟩ (by simp) rfl))
        exact Rg.valJ hk (ex_addI _ W _ _ _ (t * 2) (1) (by omega) rfl e0 rfl) (fun V' hV hv => hI.quiet 4 V' hV (by decide) (fun h => absurd h (by decide)) (hv rfl))
      · intro L V a W hli hdeps hsl hVe hI K1 hk
        have e0 : a.eval (.tmp 39) = .int .i64 (t * 2 + 1 : Nat) := (hVe 4).symm.trans (hI.vals 4 (hdeps ⟨4, .data⟩ (by simp) rfl))
        exact Rg.valJ hk (ex_convU _ W _ _ _ (by omega) rfl e0) (fun V' hV hv => hI.quiet 5 V' hV (by decide) (fun h => absurd h (by decide)) (hv rfl))
      · intro L V a W hli hdeps hsl hVe hI K1 hk
        have e0 : a.eval (.tmp 40) = .int .u64 (t * 2 + 1 : Nat) := (hVe 5).symm.trans (hI.vals 5 (hdeps ⟨5, .data⟩ (by simp) rfl))
        exact callJ hk (ex_bytes _ W _ _ _ _ _ _ rfl e0 rfl rfl) ((HB6.out W).mono fun e w' hh => ⟨_, hh.1, fun V' hV hv => hI.call 6 hh.2 V' hV (by decide) (fun h => absurd h (by decide)) (hv rfl)⟩)
      · intro L V a W hli hdeps hsl hVe hI K1 hk
        have e0 : a.eval (.tmp 41) = .string (str b6) := (hVe 6).symm.trans (hI.vals 6 (hdeps ⟨6, .data⟩ (by simp) rfl))
        exact Rg.valJ hk (ex_addS _ W _ _ _ _ _ (by (try simp only [List.length_append, List.length_cons, List.length_nil]); omega) (by (try simp only [List.length_append, List.length_cons, List.length_nil]); omega) rfl e0 rfl) (fun V' hV hv => hI.quiet 7 V' hV (by decide) (fun h => absurd h (by decide)) (hv rfl))
      · intro L V a W hli hdeps hsl hVe hI K1 hk
        have e0 : a.eval (.tmp 1) = .pointer (some ⟨w.heap.size, 0, none⟩) := (hsl 1 (by decide)).trans rfl
        exact Rg.valJ hk (ex_field _ W _ w.heap.size 8 (by decide) rfl e0) (fun V' hV hv => hI.quiet 8 V' hV (by decide) (fun h => absurd h (by decide)) (hv rfl))
      · intro L V a W hli hdeps hsl hVe hI K1 hk
        have e0 : a.eval (.tmp 43) = .pointer (some ⟨w.heap.size, 8, none⟩) := (hVe 8).symm.trans (hI.vals 8 (hdeps ⟨8, .data⟩ (by simp) rfl))
        exact Rg.valJ hk (ex_load _ W _ w.heap.size 8 _ _ (.int .u64 (q : Nat)) rfl (.inr (.inr (.inl rfl))) e0 ((HdBlk.below HBK.out hI.bel).cell 8 (.int .u64 (q : Nat)) rfl)) (fun V' hV hv => hI.quiet 9 V' hV (by decide) (fun h => absurd h (by decide)) (hv rfl))
      · intro L V a W hli hdeps hsl hVe hI K1 hk
        have e0 : a.eval (.tmp 44) = .int .u64 (q : Nat) := (hVe 9).symm.trans (hI.vals 9 (hdeps ⟨9, .data⟩ (by simp) rfl))
        exact callJ hk (ex_bytes _ W _ _ _ _ _ _ rfl e0 rfl rfl) ((HB7.out W).mono fun e w' hh => ⟨_, hh.1, fun V' hV hv => hI.call 10 hh.2 V' hV (by decide) (fun h => absurd h (by decide)) (hv rfl)⟩)
      · intro L V a W hli hdeps hsl hVe hI K1 hk
        have e0 : a.eval (.tmp 42) = .string (str (b6 ++ [0])) := (hVe 7).symm.trans (hI.vals 7 (hdeps ⟨7, .data⟩ (by simp) rfl))
        have e1 : a.eval (.tmp 45) = .string (str b7) := (hVe 10).symm.trans (hI.vals 10 (hdeps ⟨10, .data⟩ (by simp) rfl))
        exact Rg.valJ hk (ex_addS _ W _ _ _ _ _ (by (try simp only [List.length_append, List.length_cons, List.length_nil]); omega) (by (try simp only [List.length_append, List.length_cons, List.length_nil]); omega) rfl e0 e1) (fun V' hV hv => hI.quiet 11 V' hV (by decide) (fun h => absurd h (by decide)) (hv rfl))
      · intro L V a W hli hdeps hsl hVe hI K1 hk
        have e0 : a.eval (.tmp 35) = .string (str A) := (hVe 0).symm.trans (hI.vals 0 (hdeps ⟨0, .data⟩ (by simp) rfl))
        have e1 : a.eval (.tmp 46) = .string (str (b6 ++ [0] ++ b7)) := (hVe 11).symm.trans (hI.vals 11 (hdeps ⟨11, .data⟩ (by simp) rfl))
        exact Rg.valJ hk (ex_addS _ W _ _ _ _ _ (by (try simp only [List.length_append, List.length_cons, List.length_nil]); omega) (by (try simp only [List.length_append, List.length_cons, List.length_nil]); omega) rfl e0 e1) (fun V' hV hv => hI.quiet 12 V' hV (by decide) (fun h => absurd h (by decide)) (hv rfl))
      · intro L V a W hli hdeps hsl hVe hI K1 hk
        have e0 : a.eval (.tmp 47) = .string (str (A ++ (b6 ++ [0] ++ b7))) := (hVe 12).symm.trans (hI.vals 12 (hdeps ⟨12, .data⟩ (by simp) rfl))
        exact Rg.valJ hk (ex_setV _ W _ _ _ rfl e0) (fun V' hV hv => hI.quiet 13 V' hV (by decide) (fun _ => hdeps ⟨0, .phase⟩ (by simp) rfl) (hv rfl))
      · intro W2 f L V hL hVf hI
        have e3 : f 3 = .string (str (A ++ (b6 ++ [0] ++ b7))) := (hVf 13).symm.trans (hI.vals 13 (hL 13 (by decide)))
        have hb2 := hI.bel
        clear hI hL hVf
        simp only [Rg.puts, List.foldl_cons, List.foldl_nil, Act.put, List.setIfInBounds_toArray, List.set_cons_succ, List.set_cons_zero, e3]
        clear e3
        have HB := Lib.hid hb2; clear hb2
        have hk2 := HdBlk.below HBK.out HB.out
        have c6 := hk2.cell 6 (.int .i64 (t : Int)) rfl
        clear hk2
        obtain ⟨A2, hA2⟩ : ∃ A2, A ++ (b6 ++ [0] ++ b7) = A2 := ⟨_, rfl⟩
        have lA2 : A2.length ≤ 100 := by rw [← hA2]; simp only [List.length_append, List.length_cons, List.length_nil]; omega
        rw [hA2] at HF ⊢
        clear hA2
        go_upto_region 8 with (go_at_call 10; with_reducible refine (HA.out _).mono ?_; rintro e w5 ⟨rfl, rfl⟩)
        clear c6
        refine Rg.regionW (by kernel_rfl) [62, 63, 64, 65, 66, 67, 68, 69, 70, 71, 72, 3] (VI [.string (str A2), .int .i64 (6 : Nat), .int .i64 (1 : Nat), .int .i64 (1 + 1 : Nat), .string (str b8), .pointer (some ⟨w.heap.size, 9, none⟩), .int .u64 (ak : Nat), .int .i64 (6 : Nat), .string (str b9), .string (str (b8 ++ b9)), .string (str (A2 ++ (b8 ++ b9))), .string (str (A2 ++ (b8 ++ b9)))] 11 (.string (str A2)) W1.heap.size W1) (by kernel_rfl) (fun V hV => VI.start HB.out HB.out.size V ((hV 11).trans rfl)) ⟨?_, ?_, ?_, ?_, ?_, ?_, ?_, ?_, ?_, ?_, ?_, ?_, trivial⟩ ?_
        · intro L V a W hli hdeps hsl hVe hI K1 hk
          have e0 : a.eval (.tmp 3) = .string (str A2) := (hVe 11).symm.trans (hI.old hli)
          exact Rg.valJ hk (ex_move _ W _ _ _ rfl e0) (fun V' hV hv => hI.quiet 0 V' hV (by decide) (fun h => absurd h (by decide)) (hv rfl))
        · intro L V a W hli hdeps hsl hVe hI K1 hk
          have e0 : a.eval (.tmp 4) = .int .i64 (6 : Nat) := (hsl 4 (by decide)).trans rfl
          exact Rg.valJ hk (ex_move _ W _ _ _ rfl e0) (fun V' hV hv => hI.quiet 1 V' hV (by decide) (fun h => absurd h (by decide)) (hv rfl))
        · intro L V a W hli hdeps hsl hVe hI K1 hk
          have e0 : a.eval (.tmp 63) = .int .i64 (6 : Nat) := (hVe 1).symm.trans (hI.vals 1 (hdeps ⟨1, .data⟩ (by simp) rfl))
          exact Rg.valJ hk (ex_quo6 _ W _ _ _ _ (.inl ⟨rfl, rfl⟩) rfl e0 rfl) (fun V' hV hv => hI.quiet 2 V' hV (by decide) (fun h => absurd h (by decide)) (hv rfl))
        · intro L V a W hli hdeps hsl hVe hI K1 hk
          have e1 : a.eval (.tmp 64) = .int .i64 (1 : Nat) := (hVe 2).symm.trans (hI.vals 2 (hdeps ⟨2, .data⟩ (by simp) rfl))
          exact Rg.valJ hk (ex_addI _ W _ _ _ (1) (1) (by omega) rfl rfl e1) (fun V' hV hv => hI.quiet 3 V' hV (by decide) (fun h => absurd h (by decide)) (hv rfl))
        · intro L V a W hli hdeps hsl hVe hI K1 hk
          have e1 : a.eval (.tmp 65) = .int .i64 (1 + 1 : Nat) := (hVe 3).symm.trans (hI.vals 3 (hdeps ⟨3, .data⟩ (by simp) rfl))
          exact callJ hk (ex_bytes _ W _ _ _ _ _ _ rfl rfl e1 rfl) ((HB8.out W).mono fun e w' hh => ⟨_, hh.1, fun V' hV hv => hI.call 4 hh.2 V' hV (by decide) (fun h => absurd h (by decide)) (hv rfl)⟩)
        · intro L V a W hli hdeps hsl hVe hI K1 hk
          have e0 : a.eval (.tmp 1) = .pointer (some ⟨w.heap.size, 0, none⟩) := (hsl 1 (by decide)).trans rfl
          exact Rg.valJ hk (ex_field _ W _ w.heap.size 9 (by decide) rfl e0) (fun V' hV hv => hI.quiet 5 V' hV (by decide) (fun h => absurd h (by decide)) (hv rfl))
        · intro L V a W hli hdeps hsl hVe hI K1 hk
          have e0 : a.eval (.tmp 67) = .pointer (some ⟨w.heap.size, 9, none⟩) := (hVe 5).symm.trans (hI.vals 5 (hdeps ⟨5, .data⟩ (by simp) rfl))
          exact Rg.valJ hk (ex_load _ W _ w.heap.size 9 _ _ (.int .u64 (ak : Nat)) rfl (.inr (.inr (.inl rfl))) e0 ((HdBlk.below HBK.out hI.bel).cell 9 (.int .u64 (ak : Nat)) rfl)) (fun V' hV hv => hI.quiet 6 V' hV (by decide) (fun h => absurd h (by decide)) (hv rfl))
        · intro L V a W hli hdeps hsl hVe hI K1 hk
          have e0 : a.eval (.tmp 4) = .int .i64 (6 : Nat) := (hsl 4 (by decide)).trans rfl
          exact Rg.valJ hk (ex_move _ W _ _ _ rfl e0) (fun V' hV hv => hI.quiet 7 V' hV (by decide) (fun h => absurd h (by decide)) (hv rfl))
        · intro L V a W hli hdeps hsl hVe hI K1 hk
          have e0 : a.eval (.tmp 68) = .int .u64 (ak : Nat) := (hVe 6).symm.trans (hI.vals 6 (hdeps ⟨6, .data⟩ (by simp) rfl))
          have e1 : a.eval (.tmp 69) = .int .i64 (6 : Nat) := (hVe 7).symm.trans (hI.vals 7 (hdeps ⟨7, .data⟩ (by simp) rfl))
          exact callJ hk (ex_bytes _ W _ _ _ _ _ _ rfl e0 e1 rfl) ((HB9.out W).mono fun e w' hh => ⟨_, hh.1, fun V' hV hv => hI.call 8 hh.2 V' hV (by decide) (fun h => absurd h (by decide)) (hv rfl)⟩)
        · intro L V a W hli hdeps hsl hVe hI K1 hk
          have e0 : a.eval (.tmp 66) = .string (str b8) := (hVe 4).symm.trans (hI.vals 4 (hdeps ⟨4, .data⟩ (by simp) rfl))
          have e1 : a.eval (.tmp 70) = .string (str b9) := (hVe 8).symm.trans (hI.vals 8 (hdeps ⟨8, .data⟩ (by simp) rfl))
          exact Rg.valJ hk (ex_addS _ W _ _ _ _ _ (by (try simp only [List.length_append, List.length_cons, List.length_nil]); omega) (by (try simp only [List.length_append, List.length_cons, List.length_nil]); omega) rfl e0 e1) (fun V' hV hv => hI.quiet 9 V' hV (by decide) (fun h => absurd h (by decide)) (hv rfl))
        · intro L V a W hli hdeps hsl hVe hI K1 hk
          have e0 : a.eval (.tmp 62) = .string (str A2) := (hVe 0).symm.trans (hI.vals 0 (hdeps ⟨0, .data⟩ (by simp) rfl))
          have e1 : a.eval (.tmp 71) = .string (str (b8 ++ b9)) := (hVe 9).symm.trans (hI.vals 9 (hdeps ⟨9, .data⟩ (by simp) rfl))
          exact Rg.valJ hk (ex_addS _ W _ _ _ _ _ (by (try simp only [List.length_append, List.length_cons, List.length_nil]); omega) (by (try simp only [List.length_append, List.length_cons, List.length_nil]); omega) rfl e0 e1) (fun V' hV hv => hI.quiet 10 V' hV (by decide) (fun h => absurd h (by decide)) (hv rfl))
        · intro L V a W hli hdeps hsl hVe hI K1 hk
          have e0 : a.eval (.tmp 72) = .string (str (A2 ++ (b8 ++ b9))) := (hVe 10).symm.trans (hI.vals 10 (hdeps ⟨10, .data⟩ (by simp) rfl))
          exact Rg.valJ hk (ex_setV _ W _ _ _ rfl e0) (fun V' hV hv => hI.quiet 11 V' hV (by decide) (fun _ => hdeps ⟨0, .phase⟩ (by simp) rfl) (hv rfl))
        · intro W2 f L V hL hVf hI
          have e3 : f 3 = .string (str (A2 ++ (b8 ++ b9))) := (hVf 11).symm.trans (hI.vals 11 (hL 11 (by decide)))
          have hb2 := hI.bel
          clear hI hL hVf
          simp only [Rg.puts, List.foldl_cons, List.foldl_nil, Act.put, List.setIfInBounds_toArray, List.set_cons_succ, List.set_cons_zero, e3]
          clear e3
          have HB := Lib.hid hb2; clear hb2
          have hk2 := HdBlk.below HBK.out HB.out
          have c6 := hk2.cell 6 (.int .i64 (t : Int)) rfl
          clear hk2
          obtain ⟨A3, hA3⟩ : ∃ A3, A2 ++ (b8 ++ b9) = A3 := ⟨_, rfl⟩
          have lA3 : A3.length ≤ 200 := by rw [← hA3]; simp only [List.length_append, List.length_cons, List.length_nil]; omega
          rw [hA3] at HF ⊢
          clear hA3
          have c10 := (HdBlk.below HBK.out HB.out).cell 10 (.int .u32 (sv : Int)) rfl
          have hns : ¬ 9223372036854775807 < (str A3).size + (str b10).size := by rw [str_size, str_size]; omega
          go_wp2_with (first | (go_at_call 10; with_reducible refine (HA.out _).mono ?_; rintro e w5 ⟨rfl, rfl⟩) | (go_at_call 49; with_reducible refine (HB10.out _).mono ?_; rintro e w6 ⟨rfl, hb6⟩))
          go_ret
          refine ⟨?_, HBW.out.trans ((HB.out.trans (hb6.mono HB.out.size)).mono HWS.out)⟩
          rw [HF.out]
          exact ret_str (str_append _ _)
    · cases hx
      have HA := Lib.hid (fun W => refHasAck_any (t : Int) W)
      rw [hA] at HA
      obtain ⟨b6, h6⟩ : ∃ b, beBytes 1 (t * 2 + 1) = b := ⟨_, rfl⟩
      obtain ⟨b7, h7⟩ : ∃ b, beBytes 6 q = b := ⟨_, rfl⟩
      have hsq : beBytes 7 q = [0] ++ b7 := by rw [← h7]; exact beBytes_zero 1 6 q hq
      have l6 := be_len h6; have l7 := be_len h7
      have HB6 := Lib.hid (refBytes_q h6 (by omega) (by decide)); have HB7 := Lib.hid (refBytes_q h7 (by omega) (by decide))
      have hfull : Hd.bytes ⟨s, d, o, c, v, u, t, true, q, ak, sv, code, i0, i1, i2⟩ = A ++ (b6 ++ [0] ++ b7) := by
        obtain ⟨f1, f2, f3⟩ := HSB.out
        rw [HHB.out, f1, f2, f3]
        simp [hA, hSv, hCd, typeN, seqPad, numLen, ackPad, h6, hsq]
      have HF := Lib.hid hfull
      clear hfull h6 h7 hsq   HHB HSB hA hSv hCd hSz
      go_upto_region 4 with fail
      clear c7
      refine Rg.regionW (by kernel_rfl) [35, 36, 37, 38, 39, 40, 41, 42, 43, 44, 45, 46, 47, 3] (VI [.string (str A), .pointer (some ⟨w.heap.size, 6, none⟩), .int .i64 (t : Nat), .int .i64 (t * 2 : Nat), .int .i64 (t * 2 + 1 : Nat), .int .u64 (t * 2 + 1 : Nat), .string (str b6), .string (str (b6 ++ [0])), .pointer (some ⟨w.heap.size, 8, none⟩), .int .u64 (q : Nat), .string (str b7), .string (str (b6 ++ [0] ++ b7)), .string (str (A ++ (b6 ++ [0] ++ b7))), .string (str (A ++ (b6 ++ [0] ++ b7)))] 13 (.string (str A)) W1.heap.size W1) (by kernel_rfl) (fun V hV => VI.start HB.out HB.out.size V ((hV 13).trans rfl)) ⟨?_, ?_, ?_, ?_, ?_, ?_, ?_, ?_, ?_, ?_, ?_, ?_, ?_, ?_, trivial⟩ ?_
      · intro L V a W hli hdeps hsl hVe hI K1 hk
        have e0 : a.eval (.tmp 3) = .string (str A) := (hVe 13).symm.trans (hI.old hli)
        exact Rg.valJ hk (ex_move _ W _ _ _ rfl e0) (fun V' hV hv => hI.quiet 0 V' hV (by decide) (fun h => absurd h (by decide)) (hv rfl))
      · intro L V a W hli hdeps hsl hVe hI K1 hk
        have e0 : a.eval (.tmp 1) = .pointer (some ⟨w.heap.size, 0, none⟩) := (hsl 1 (by decide)).trans rfl
        exact Rg.valJ hk (ex_field _ W _ w.heap.size 6 (by decide) rfl e0) (fun V' hV hv => hI.quiet 1 V' hV (by decide) (fun h => absurd h (by decide)) (hv rfl))
      · intro L V a W hli hdeps hsl hVe hI K1 hk
        have e0 : a.eval (.tmp 36) = .pointer (some ⟨w.heap.size, 6, none⟩) := (hVe 1).symm.trans (hI.vals 1 (hdeps ⟨1, .data⟩ (by simp) rfl))
        exact Rg.valJ hk (ex_load _ W _ w.heap.size 6 _ _ (.int .i64 (t : Nat)) rfl (.inl rfl) e0 ((HdBlk.below HBK.out hI.bel).cell 6 (.int .i64 (t : Nat)) rfl)) (fun V' hV hv => hI.quiet 2 V' hV (by decide) (fun h => absurd h (by decide)) (hv rfl))
      · intro L V a W hli hdeps hsl hVe hI K1 hk
        have e0 : a.eval (.tmp 37) = .int .i64 (t : Nat) := (hVe 2).symm.trans (hI.vals 2 (hdeps ⟨2, .data⟩ (by simp) rfl))
        exact Rg.valJ hk (ex_mulI _ W _ _ _ (t) (2) (by omega) rfl e0 rfl) (fun V' hV hv => hI.quiet 3 V' hV (by decide) (fun h => absurd h (by decide)) (hv rfl))
      · intro L V a W hli hdeps hsl hVe hI K1 hk
        have e0 : a.eval (.tmp 38) = .int .i64 (t * 2 : Nat) := (hVe 3).symm.trans (hI.vals 3 (hdeps ⟨3, .data⟩ (by simp) rfl))
        exact Rg.valJ hk (ex_addI _ W _ _ _ (t * 2) (1) (by omega) rfl e0 rfl) (fun V' hV hv => hI.quiet 4 V' hV (by decide) (fun h => absurd h (by decide)) (hv rfl))
      · intro L V a W hli hdeps hsl hVe hI K1 hk
        have e0 : a.eval (.tmp 39) = .int .i64 (t * 2 + 1 : Nat) := (hVe 4).symm.trans (hI.vals 4 (hdeps ⟨4, .data⟩ (by simp) rfl))
        exact Rg.valJ hk (ex_convU _ W _ _ _ (by omega) rfl e0) (fun V' hV hv => hI.quiet 5 V' hV (by decide) (fun h => absurd h (by decide)) (hv rfl))
      · intro L V a W hli hdeps hsl hVe hI K1 hk
        have e0 : a.eval (.tmp 40) = .int .u64 (t * 2 + 1 : Nat) := (hVe 5).symm.trans (hI.vals 5 (hdeps ⟨5, .data⟩ (by simp) rfl))
        exact callJ hk (ex_bytes _ W _ _ _ _ _ _ rfl e0 rfl rfl) ((HB6.out W).mono fun e w' hh => ⟨_, hh.1, fun V' hV hv => hI.call 6 hh.2 V' hV (by decide) (fun h => absurd h (by decide)) (hv rfl)⟩)
      · intro L V a W hli hdeps hsl hVe hI K1 hk
        have e0 : a.eval (.tmp 41) = .string (str b6) := (hVe 6).symm.trans (hI.vals 6 (hdeps ⟨6, .data⟩ (by simp) rfl))
        exact Rg.valJ hk (ex_addS _ W _ _ _ _ _ (by (try simp only [List.length_append, List.length_cons, List.length_nil]); omega) (by (try simp only [List.length_append, List.length_cons, List.length_nil]); omega) rfl e0 rfl) (fun V' hV hv => hI.quiet 7 V' hV (by decide) (fun h => absurd h (by decide)) (hv rfl))
      · intro L V a W hli hdeps hsl hVe hI K1 hk
        have e0 : a.eval (.tmp 1) = .pointer (some ⟨w.heap.size, 0, none⟩) := (hsl 1 (by decide)).trans rfl
        exact Rg.valJ hk (ex_field _ W _ w.heap.size 8 (by decide) rfl e0) (fun V' hV hv => hI.quiet 8 V' hV (by decide) (fun h => absurd h (by decide)) (hv rfl))
      · intro L V a W hli hdeps hsl hVe hI K1 hk
        have e0 : a.eval (.tmp 43) = .pointer (some ⟨w.heap.size, 8, none⟩) := (hVe 8).symm.trans (hI.vals 8 (hdeps ⟨8, .data⟩ (by simp) rfl))
        exact Rg.valJ hk (ex_load _ W _ w.heap.size 8 _ _ (.int .u64 (q : Nat)) rfl (.inr (.inr (.inl rfl))) e0 ((HdBlk.below HBK.out hI.bel).cell 8 (.int .u64 (q : Nat)) rfl)) (fun V' hV hv => hI.quiet 9 V' hV (by decide) (fun h => absurd h (by decide)) (hv rfl))
      · intro L V a W hli hdeps hsl hVe hI K1 hk
        have e0 : a.eval (.tmp 44) = .int .u64 (q : Nat) := (hVe 9).symm.trans (hI.vals 9 (hdeps ⟨9, .data⟩ (by simp) rfl))
        exact callJ hk (ex_bytes _ W _ _ _ _ _ _ rfl e0 rfl rfl) ((HB7.out W).mono fun e w' hh => ⟨_, hh.1, fun V' hV hv => hI.call 10 hh.2 V' hV (by decide) (fun h => absurd h (by decide)) (hv rfl)⟩)
      · intro L V a W hli hdeps hsl hVe hI K1 hk
        have e0 : a.eval (.tmp 42) = .string (str (b6 ++ [0])) := (hVe 7).symm.trans (hI.vals 7 (hdeps ⟨7, .data⟩ (by simp) rfl))
        have e1 : a.eval (.tmp 45) = .string (str b7) := (hVe 10).symm.trans (hI.vals 10 (hdeps ⟨10, .data⟩ (by simp) rfl))
        exact Rg.valJ hk (ex_addS _ W _ _ _ _ _ (by (try simp only [List.length_append, List.length_cons, List.length_nil]); omega) (by (try simp only [List.length_append, List.length_cons, List.length_nil]); omega) rfl e0 e1) (fun V' hV hv => hI.quiet 11 V' hV (by decide) (fun h => absurd h (by decide)) (hv rfl))
      · intro L V a W hli hdeps hsl hVe hI K1 hk
        have e0 : a.eval (.tmp 35) = .string (str A) := (hVe 0).symm.trans (hI.vals 0 (hdeps ⟨0, .data⟩ (by simp) rfl))
        have e1 : a.eval (.tmp 46) = .string (str (b6 ++ [0] ++ b7)) := (hVe 11).symm.trans (hI.vals 11 (hdeps ⟨11, .data⟩ (by simp) rfl))
        exact Rg.valJ hk (ex_addS _ W _ _ _ _ _ (by (try simp only [List.length_append, List.length_cons, List.length_nil]); omega) (by (try simp only [List.length_append, List.length_cons, List.length_nil]); omega) rfl e0 e1) (fun V' hV hv => hI.quiet 12 V' hV (by decide) (fun h => absurd h (by decide)) (hv rfl))
      · intro L V a W hli hdeps hsl hVe hI K1 hk
        have e0 : a.eval (.tmp 47) = .string (str (A ++ (b6 ++ [0] ++ b7))) := (hVe 12).symm.trans (hI.vals 12 (hdeps ⟨12, .data⟩ (by simp) rfl))
        exact Rg.valJ hk (ex_setV _ W _ _ _ rfl e0) (fun V' hV hv => hI.quiet 13 V' hV (by decide) (fun _ => hdeps ⟨0, .phase⟩ (by simp) rfl) (hv rfl))
      · intro W2 f L V hL hVf hI
        have e3 : f 3 = .string (str (A ++ (b6 ++ [0] ++ b7))) := (hVf 13).symm.trans (hI.vals 13 (hL 13 (by decide)))
        have hb2 := hI.bel
        clear hI hL hVf
        simp only [Rg.puts, List.foldl_cons, List.foldl_nil, Act.put, List.setIfInBounds_toArray, List.set_cons_succ, List.set_cons_zero, e3]
        clear e3
        have HB := Lib.hid hb2; clear hb2
        have hk2 := HdBlk.below HBK.out HB.out
        have c6 := hk2.cell 6 (.int .i64 (t : Int)) rfl
        clear hk2
        obtain ⟨A2, hA2⟩ : ∃ A2, A ++ (b6 ++ [0] ++ b7) = A2 := ⟨_, rfl⟩
        have lA2 : A2.length ≤ 100 := by rw [← hA2]; simp only [List.length_append, List.length_cons, List.length_nil]; omega
        rw [hA2] at HF ⊢
        clear hA2
        go_wp2_with (go_at_call 10; with_reducible refine (HA.out _).mono ?_; rintro e w5 ⟨rfl, rfl⟩)
        go_ret
        exact ⟨by rw [HF.out]; rfl, HBW.out.trans ((HB.out).mono HWS.out)⟩
    · cases hx
      have HA := Lib.hid (fun W => refHasAck_any (t : Int) W)
      rw [hA] at HA
      obtain ⟨b6, h6⟩ : ∃ b, beBytes 1 (t * 2 + 1) = b := ⟨_, rfl⟩
      obtain ⟨b7, h7⟩ : ∃ b, beBytes 6 q = b := ⟨_, rfl⟩
      have hsq : beBytes 7 q = [0] ++ b7 := by rw [← h7]; exact beBytes_zero 1 6 q hq
      have l6 := be_len h6; have l7 := be_len h7
      have HB6 := Lib.hid (refBytes_q h6 (by omega) (by decide)); have HB7 := Lib.hid (refBytes_q h7 (by omega) (by decide))
      obtain ⟨b8, h8⟩ : ∃ b, beBytes (1 + 1) 0 = b := ⟨_, rfl⟩
      obtain ⟨b9, h9⟩ : ∃ b, beBytes 6 ak = b := ⟨_, rfl⟩
      have hsa : beBytes 8 ak = b8 ++ b9 := by rw [← h8, ← h9]; exact beBytes_zero 2 6 ak hak
      have l8 := be_len h8; have l9 := be_len h9
      have HB8 := Lib.hid (refBytes_q h8 (by omega) (by decide)); have HB9 := Lib.hid (refBytes_q h9 (by omega) (by decide))
      obtain ⟨hc0, hc1⟩ := hcd hCd
      obtain ⟨cd, hcn⟩ := Int.eq_ofNat_of_zero_le hc0
      subst hcn
      obtain ⟨b10, h10⟩ : ∃ b, beBytes 1 cd = b := ⟨_, rfl⟩
      obtain ⟨J, hJ⟩ : ∃ J, Hd.infoBytes ⟨s, d, o, c, v, u, t, true, q, ak, sv, cd, i0, i1, i2⟩ = J := ⟨_, rfl⟩
      have l10 := be_len h10
      have lJ : J.length = 3 := by rw [← hJ]; rfl
      have HB10 := Lib.hid (refBytes_q h10 (by omega) (by decide))
      have hfull : Hd.bytes ⟨s, d, o, c, v, u, t, true, q, ak, sv, cd, i0, i1, i2⟩ = ((A ++ (b6 ++ [0] ++ b7)) ++ (b8 ++ b9)) ++ (b10 ++ J) := by
        obtain ⟨f1, f2, f3⟩ := HSB.out
        rw [HHB.out, f1, f2, f3]
        simp [hA, hSv, hCd, typeN, seqPad, numLen, ackPad, h6, hsq, hsa, h10, hJ, Int.toNat_natCast]
      have HF := Lib.hid hfull
      clear hfull h6 h7 hsq h8 h9 hsa h10 HHB HSB hA hSv hCd hSz
      go_upto_region 4 with fail
      clear c7
      have HJ := Lib.hid hJ; clear hJ
      refine Rg.regionW (by kernel_rfl) [35, 36, 37, 38, 39, 40, 41, 42, 43, 44, 45, 46, 47, 3] (VI [.string (str A), .pointer (some ⟨w.heap.size, 6, none⟩), .int .i64 (t : Nat), .int .i64 (t * 2 : Nat), .int .i64 (t * 2 + 1 : Nat), .int .u64 (t * 2 + 1 : Nat), .string (str b6), .string (str (b6 ++ [0])), .pointer (some ⟨w.heap.size, 8, none⟩), .int .u64 (q : Nat), .string (str b7), .string (str (b6 ++ [0] ++ b7)), .string (str (A ++ (b6 ++ [0] ++ b7))), .string (str (A ++ (b6 ++ [0] ++ b7)))] 13 (.string (str A)) W1.heap.size W1) (by kernel_rfl) (fun V hV => VI.start HB.out HB.out.size V ((hV 13).trans rfl)) ⟨?_, ?_, ?_, ?_, ?_, ?_, ?_, ?_, ?_, ?_, ?_, ?_, ?_, ?_, trivial⟩ ?_
      · intro L V a W hli hdeps hsl hVe hI K1 hk
        have e0 : a.eval (.tmp 3) = .string (str A) := (hVe 13).symm.trans (hI.old hli)
        exact Rg.valJ hk (ex_move _ W _ _ _ rfl e0) (fun V' hV hv => hI.quiet 0 V' hV (by decide) (fun h => absurd h (by decide)) (hv rfl))
      · intro L V a W hli hdeps hsl hVe hI K1 hk
        have e0 : a.eval (.tmp 1) = .pointer (some ⟨w.heap.size, 0, none⟩) := (hsl 1 (by decide)).trans rfl
        exact Rg.valJ hk (ex_field _ W _ w.heap.size 6 (by decide) rfl e0) (fun V' hV hv => hI.quiet 1 V' hV (by decide) (fun h => absurd h (by decide)) (hv rfl))
      · intro L V a W hli hdeps hsl hVe hI K1 hk
        have e0 : a.eval (.tmp 36) = .pointer (some ⟨w.heap.size, 6, none⟩) := (hVe 1).symm.trans (hI.vals 1 (hdeps ⟨1, .data⟩ (by simp) rfl))
        exact Rg.valJ hk (ex_load _ W _ w.heap.size 6 _ _ (.int .i64 (t : Nat)) rfl (.inl rfl) e0 ((HdBlk.below HBK.out hI.bel).cell 6 (.int .i64 (t : Nat)) rfl)) (fun V' hV hv => hI.quiet 2 V' hV (by decide) (fun h => absurd h (by decide)) (hv rfl))
      · intro L V a W hli hdeps hsl hVe hI K1 hk
        have e0 : a.eval (.tmp 37) = .int .i64 (t : Nat) := (hVe 2).symm.trans (hI.vals 2 (hdeps ⟨2, .data⟩ (by simp) rfl))
        exact Rg.valJ hk (ex_mulI _ W _ _ _ (t) (2) (by omega) rfl e0 rfl) (fun V' hV hv => hI.quiet 3 V' hV (by decide) (fun h => absurd h (by decide)) (hv rfl))
      · intro L V a W hli hdeps hsl hVe hI K1 hk
        have e0 : a.eval (.tmp 38) = .int .i64 (t * 2 : Nat) := (hVe 3).symm.trans (hI.vals 3 (hdeps ⟨3, .data⟩ (by simp) rfl))
        exact Rg.valJ hk (ex_addI _ W _ _ _ (t * 2) (1) (by omega) rfl e0 rfl) (fun V' hV hv => hI.quiet 4 V' hV (by decide) (fun h => absurd h (by decide)) (hv rfl))
      · intro L V a W hli hdeps hsl hVe hI K1 hk
        have e0 : a.eval (.tmp 39) = .int .i64 (t * 2 + 1 : Nat) := (hVe 4).symm.trans (hI.vals 4 (hdeps ⟨4, .data⟩ (by simp) rfl))
        exact Rg.valJ hk (ex_convU _ W _ _ _ (by omega) rfl e0) (fun V' hV hv => hI.quiet 5 V' hV (by decide) (fun h => absurd h (by decide)) (hv rfl))
      · intro L V a W hli hdeps hsl hVe hI K1 hk
        have e0 : a.eval (.tmp 40) = .int .u64 (t * 2 + 1 : Nat) := (hVe 5).symm.trans (hI.vals 5 (hdeps ⟨5, .data⟩ (by simp) rfl))
        exact callJ hk (ex_bytes _ W _ _ _ _ _ _ rfl e0 rfl rfl) ((HB6.out W).mono fun e w' hh => ⟨_, hh.1, fun V' hV hv => hI.call 6 hh.2 V' hV (by decide) (fun h => absurd h (by decide)) (hv rfl)⟩)
      · intro L V a W hli hdeps hsl hVe hI K1 hk
        have e0 : a.eval (.tmp 41) = .string (str b6) := (hVe 6).symm.trans (hI.vals 6 (hdeps ⟨6, .data⟩ (by simp) rfl))
        exact Rg.valJ hk (ex_addS _ W _ _ _ _ _ (by (try simp only [List.length_append, List.length_cons, List.length_nil]); omega) (by (try simp only [List.length_append, List.length_cons, List.length_nil]); omega) rfl e0 rfl) (fun V' hV hv => hI.quiet 7 V' hV (by decide) (fun h => absurd h (by decide)) (hv rfl))
      · intro L V a W hli hdeps hsl hVe hI K1 hk
        have e0 : a.eval (.tmp 1) = .pointer (some ⟨w.heap.size, 0, none⟩) := (hsl 1 (by decide)).trans rfl
        exact Rg.valJ hk (ex_field _ W _ w.heap.size 8 (by decide) rfl e0) (fun V' hV hv => hI.quiet 8 V' hV (by decide) (fun h => absurd h (by decide)) (hv rfl))
      · intro L V a W hli hdeps hsl hVe hI K1 hk
        have e0 : a.eval (.tmp 43) = .pointer (some ⟨w.heap.size, 8, none⟩) := (hVe 8).symm.trans (hI.vals 8 (hdeps ⟨8, .data⟩ (by simp) rfl))
        exact Rg.valJ hk (ex_load _ W _ w.heap.size 8 _ _ (.int .u64 (q : Nat)) rfl (.inr (.inr (.inl rfl))) e0 ((HdBlk.below HBK.out hI.bel).cell 8 (.int .u64 (q : Nat)) rfl)) (fun V' hV hv => hI.quiet 9 V' hV (by decide) (fun h => absurd h (by decide)) (hv rfl))
      · intro L V a W hli hdeps hsl hVe hI K1 hk
        have e0 : a.eval (.tmp 44) = .int .u64 (q : Nat) := (hVe 9).symm.trans (hI.vals 9 (hdeps ⟨9, .data⟩ (by simp) rfl))
        exact callJ hk (ex_bytes _ W _ _ _ _ _ _ rfl e0 rfl rfl) ((HB7.out W).mono fun e w' hh => ⟨_, hh.1, fun V' hV hv => hI.call 10 hh.2 V' hV (by decide) (fun h => absurd h (by decide)) (hv rfl)⟩)
      · intro L V a W hli hdeps hsl hVe hI K1 hk
        have e0 : a.eval (.tmp 42) = .string (str (b6 ++ [0])) := (hVe 7).symm.trans (hI.vals 7 (hdeps ⟨7, .data⟩ (by simp) rfl))
        have e1 : a.eval (.tmp 45) = .string (str b7) := (hVe 10).symm.trans (hI.vals 10 (hdeps ⟨10, .data⟩ (by simp) rfl))
        exact Rg.valJ hk (ex_addS _ W _ _ _ _ _ (by (try simp only [List.length_append, List.length_cons, List.length_nil]); omega) (by (try simp only [List.length_append, List.length_cons, List.length_nil]); omega) rfl e0 e1) (fun V' hV hv => hI.quiet 11 V' hV (by decide) (fun h => absurd h (by decide)) (hv rfl))
      · intro L V a W hli hdeps hsl hVe hI K1 hk
        have e0 : a.eval (.tmp 35) = .string (str A) := (hVe 0).symm.trans (hI.vals 0 (hdeps ⟨0, .data⟩ (by simp) rfl))
        have e1 : a.eval (.tmp 46) = .string (str (b6 ++ [0] ++ b7)) := (hVe 11).symm.trans (hI.vals 11 (hdeps ⟨11, .data⟩ (by simp) rfl))
        exact Rg.valJ hk (ex_addS _ W _ _ _ _ _ (by (try simp only [List.length_append, List.length_cons, List.length_nil]); omega) (by (try simp only [List.length_append, List.length_cons, List.length_nil]); omega) rfl e0 e1) (fun V' hV hv => hI.quiet 12 V' hV (by decide) (fun h => absurd h (by decide)) (hv rfl))
      · intro L V a W hli hdeps hsl hVe hI K1 hk
        have e0 : a.eval (.tmp 47) = .string (str (A ++ (b6 ++ [0] ++ b7))) := (hVe 12).symm.trans (hI.vals 12 (hdeps ⟨12, .data⟩ (by simp) rfl))
        exact Rg.valJ hk (ex_setV _ W _ _ _ rfl e0) (fun V' hV hv => hI.quiet 13 V' hV (by decide) (fun _ => hdeps ⟨0, .phase⟩ (by simp) rfl) (hv rfl))
      · intro W2 f L V hL hVf hI
        have e3 : f 3 = .string (str (A ++ (b6 ++ [0] ++ b7))) := (hVf 13).symm.trans (hI.vals 13 (hL 13 (by decide)))
        have hb2 := hI.bel
        clear hI hL hVf
        simp only [Rg.puts, List.foldl_cons, List.foldl_nil, Act.put, List.setIfInBounds_toArray, List.set_cons_succ, List.set_cons_zero, e3]
        clear e3
        have HB := Lib.hid hb2; clear hb2
        have hk2 := HdBlk.below HBK.out HB.out
        have c6 := hk2.cell 6 (.int .i64 (t : Int)) rfl
        clear hk2
        obtain ⟨A2, hA2⟩ : ∃ A2, A ++ (b6 ++ [0] ++ b7) = A2 := ⟨_, rfl⟩
        have lA2 : A2.length ≤ 100 := by rw [← hA2]; simp only [List.length_append, List.length_cons, List.length_nil]; omega
        rw [hA2] at HF ⊢
        clear hA2
        go_upto_region 8 with (go_at_call 10; with_reducible refine (HA.out _).mono ?_; rintro e w5 ⟨rfl, rfl⟩)
        clear c6
        refine Rg.regionW (by kernel_rfl) [62, 63, 64, 65, 66, 67, 68, 69, 70, 71, 72, 3] (VI [.string (str A2), .int .i64 (6 : Nat), .int .i64 (1 : Nat), .int .i64 (1 + 1 : Nat), .string (str b8), .pointer (some ⟨w.heap.size, 9, none⟩), .int .u64 (ak : Nat), .int .i64 (6 : Nat), .string (str b9), .string (str (b8 ++ b9)), .string (str (A2 ++ (b8 ++ b9))), .string (str (A2 ++ (b8 ++ b9)))] 11 (.string (str A2)) W1.heap.size W1) (by kernel_rfl) (fun V hV => VI.start HB.out HB.out.size V ((hV 11).trans rfl)) ⟨?_, ?_, ?_, ?_, ?_, ?_, ?_, ?_, ?_, ?_, ?_, ?_, trivial⟩ ?_
        · intro L V a W hli hdeps hsl hVe hI K1 hk
          have e0 : a.eval (.tmp 3) = .string (str A2) := (hVe 11).symm.trans (hI.old hli)
          exact Rg.valJ hk (ex_move _ W _ _ _ rfl e0) (fun V' hV hv => hI.quiet 0 V' hV (by decide) (fun h => absurd h (by decide)) (hv rfl))
        · intro L V a W hli hdeps hsl hVe hI K1 hk
          have e0 : a.eval (.tmp 4) = .int .i64 (6 : Nat) := (hsl 4 (by decide)).trans rfl
          exact Rg.valJ hk (ex_move _ W _ _ _ rfl e0) (fun V' hV hv => hI.quiet 1 V' hV (by decide) (fun h => absurd h (by decide)) (hv rfl))
        · intro L V a W hli hdeps hsl hVe hI K1 hk
          have e0 : a.eval (.tmp 63) = .int .i64 (6 : Nat) := (hVe 1).symm.trans (hI.vals 1 (hdeps ⟨1, .data⟩ (by simp) rfl))
          exact Rg.valJ hk (ex_quo6 _ W _ _ _ _ (.inl ⟨rfl, rfl⟩) rfl e0 rfl) (fun V' hV hv => hI.quiet 2 V' hV (by decide) (fun h => absurd h (by decide)) (hv rfl))
        · intro L V a W hli hdeps hsl hVe hI K1 hk
          have e1 : a.eval (.tmp 64) = .int .i64 (1 : Nat) := (hVe 2).symm.trans (hI.vals 2 (hdeps ⟨2, .data⟩ (by simp) rfl))
          exact Rg.valJ hk (ex_addI _ W _ _ _ (1) (1) (by omega) rfl rfl e1) (fun V' hV hv => hI.quiet 3 V' hV (by decide) (fun h => absurd h (by decide)) (hv rfl))
        · intro L V a W hli hdeps hsl hVe hI K1 hk
          have e1 : a.eval (.tmp 65) = .int .i64 (1 + 1 : Nat) := (hVe 3).symm.trans (hI.vals 3 (hdeps ⟨3, .data⟩ (by simp) rfl))
          exact callJ hk (ex_bytes _ W _ _ _ _ _ _ rfl rfl e1 rfl) ((HB8.out W).mono fun e w' hh => ⟨_, hh.1, fun V' hV hv => hI.call 4 hh.2 V' hV (by decide) (fun h => absurd h (by decide)) (hv rfl)⟩)
        · intro L V a W hli hdeps hsl hVe hI K1 hk
          have e0 : a.eval (.tmp 1) = .pointer (some ⟨w.heap.size, 0, none⟩) := (hsl 1 (by decide)).trans rfl
          exact Rg.valJ hk (ex_field _ W _ w.heap.size 9 (by decide) rfl e0) (fun V' hV hv => hI.quiet 5 V' hV (by decide) (fun h => absurd h (by decide)) (hv rfl))
        · intro L V a W hli hdeps hsl hVe hI K1 hk
          have e0 : a.eval (.tmp 67) = .pointer (some ⟨w.heap.size, 9, none⟩) := (hVe 5).symm.trans (hI.vals 5 (hdeps ⟨5, .data⟩ (by simp) rfl))
          exact Rg.valJ hk (ex_load _ W _ w.heap.size 9 _ _ (.int .u64 (ak : Nat)) rfl (.inr (.inr (.inl rfl))) e0 ((HdBlk.below HBK.out hI.bel).cell 9 (.int .u64 (ak : Nat)) rfl)) (fun V' hV hv => hI.quiet 6 V' hV (by decide) (fun h => absurd h (by decide)) (hv rfl))
        · intro L V a W hli hdeps hsl hVe hI K1 hk
          have e0 : a.eval (.tmp 4) = .int .i64 (6 : Nat) := (hsl 4 (by decide)).trans rfl
          exact Rg.valJ hk (ex_move _ W _ _ _ rfl e0) (fun V' hV hv => hI.quiet 7 V' hV (by decide) (fun h => absurd h (by decide)) (hv rfl))
        · intro L V a W hli hdeps hsl hVe hI K1 hk
          have e0 : a.eval (.tmp 68) = .int .u64 (ak : Nat) := (hVe 6).symm.trans (hI.vals 6 (hdeps ⟨6, .data⟩ (by simp) rfl))
          have e1 : a.eval (.tmp 69) = .int .i64 (6 : Nat) := (hVe 7).symm.trans (hI.vals 7 (hdeps ⟨7, .data⟩ (by simp) rfl))
          exact callJ hk (ex_bytes _ W _ _ _ _ _ _ rfl e0 e1 rfl) ((HB9.out W).mono fun e w' hh => ⟨_, hh.1, fun V' hV hv => hI.call 8 hh.2 V' hV (by decide) (fun h => absurd h (by decide)) (hv rfl)⟩)
        · intro L V a W hli hdeps hsl hVe hI K1 hk
          have e0 : a.eval (.tmp 66) = .string (str b8) := (hVe 4).symm.trans (hI.vals 4 (hdeps ⟨4, .data⟩ (by simp) rfl))
          have e1 : a.eval (.tmp 70) = .string (str b9) := (hVe 8).symm.trans (hI.vals 8 (hdeps ⟨8, .data⟩ (by simp) rfl))
          exact Rg.valJ hk (ex_addS _ W _ _ _ _ _ (by (try simp only [List.length_append, List.length_cons, List.length_nil]); omega) (by (try simp only [List.length_append, List.length_cons, List.length_nil]); omega) rfl e0 e1) (fun V' hV hv => hI.quiet 9 V' hV (by decide) (fun h => absurd h (by decide)) (hv rfl))
        · intro L V a W hli hdeps hsl hVe hI K1 hk
          have e0 : a.eval (.tmp 62) = .string (str A2) := (hVe 0).symm.trans (hI.vals 0 (hdeps ⟨0, .data⟩ (by simp) rfl))
          have e1 : a.eval (.tmp 71) = .string (str (b8 ++ b9)) := (hVe 9).symm.trans (hI.vals 9 (hdeps ⟨9, .data⟩ (by simp) rfl))
          exact Rg.valJ hk (ex_addS _ W _ _ _ _ _ (by (try simp only [List.length_append, List.length_cons, List.length_nil]); omega) (by (try simp only [List.length_append, List.length_cons, List.length_nil]); omega) rfl e0 e1) (fun V' hV hv => hI.quiet 10 V' hV (by decide) (fun h => absurd h (by decide)) (hv rfl))
        · intro L V a W hli hdeps hsl hVe hI K1 hk
          have e0 : a.eval (.tmp 72) = .string (str (A2 ++ (b8 ++ b9))) := (hVe 10).symm.trans (hI.vals 10 (hdeps ⟨10, .data⟩ (by simp) rfl))
          exact Rg.valJ hk (ex_setV _ W _ _ _ rfl e0) (fun V' hV hv => hI.quiet 11 V' hV (by decide) (fun _ => hdeps ⟨0, .phase⟩ (by simp) rfl) (hv rfl))
        · intro W2 f L V hL hVf hI
          have e3 : f 3 = .string (str (A2 ++ (b8 ++ b9))) := (hVf 11).symm.trans (hI.vals 11 (hL 11 (by decide)))
          have hb2 := hI.bel
          clear hI hL hVf
          simp only [Rg.puts, List.foldl_cons, List.foldl_nil, Act.put, List.setIfInBounds_toArray, List.set_cons_succ, List.set_cons_zero, e3]
          clear e3
          have HB := Lib.hid hb2; clear hb2
          have hk2 := HdBlk.below HBK.out HB.out
          have c6 := hk2.cell 6 (.int .i64 (t : Int)) rfl
          clear hk2
          obtain ⟨A3, hA3⟩ : ∃ A3, A2 ++ (b8 ++ b9) = A3 := ⟨_, rfl⟩
          have lA3 : A3.length ≤ 200 := by rw [← hA3]; simp only [List.length_append, List.length_cons, List.length_nil]; omega
          rw [hA3] at HF ⊢
          clear hA3
          go_upto_region 14 with (go_at_call 10; with_reducible refine (HA.out _).mono ?_; rintro e w5 ⟨rfl, rfl⟩)
          clear c6
          refine Rg.regionW (by kernel_rfl) [86, 87, 88, 89, 90, 91, 92, 93, 94, 95, 3] (VI [.string (str A3), .pointer (some ⟨w.heap.size, 11, none⟩), .int .i64 (cd : Nat), .int .u64 (cd : Nat), .string (str b10), .pointer (some ⟨w.heap.size, 12, none⟩), .slice (some ⟨w.heap.size, 12, none⟩) 3 3, .string (str J), .string (str (b10 ++ J)), .string (str (A3 ++ (b10 ++ J))), .string (str (A3 ++ (b10 ++ J)))] 10 (.string (str A3)) W1.heap.size W1) (by kernel_rfl) (fun V hV => VI.start HB.out HB.out.size V ((hV 10).trans rfl)) ⟨?_, ?_, ?_, ?_, ?_, ?_, ?_, ?_, ?_, ?_, ?_, trivial⟩ ?_
          · intro L V a W hli hdeps hsl hVe hI K1 hk
            have e0 : a.eval (.tmp 3) = .string (str A3) := (hVe 10).symm.trans (hI.old hli)
            exact Rg.valJ hk (ex_move _ W _ _ _ rfl e0) (fun V' hV hv => hI.quiet 0 V' hV (by decide) (fun h => absurd h (by decide)) (hv rfl))
          · intro L V a W hli hdeps hsl hVe hI K1 hk
            have e0 : a.eval (.tmp 1) = .pointer (some ⟨w.heap.size, 0, none⟩) := (hsl 1 (by decide)).trans rfl
            exact Rg.valJ hk (ex_field _ W _ w.heap.size 11 (by decide) rfl e0) (fun V' hV hv => hI.quiet 1 V' hV (by decide) (fun h => absurd h (by decide)) (hv rfl))
          · intro L V a W hli hdeps hsl hVe hI K1 hk
            have e0 : a.eval (.tmp 87) = .pointer (some ⟨w.heap.size, 11, none⟩) := (hVe 1).symm.trans (hI.vals 1 (hdeps ⟨1, .data⟩ (by simp) rfl))
            exact Rg.valJ hk (ex_load _ W _ w.heap.size 11 _ _ (.int .i64 (cd : Nat)) rfl (.inl rfl) e0 ((HdBlk.below HBK.out hI.bel).cell 11 (.int .i64 (cd : Nat)) rfl)) (fun V' hV hv => hI.quiet 2 V' hV (by decide) (fun h => absurd h (by decide)) (hv rfl))
          · intro L V a W hli hdeps hsl hVe hI K1 hk
            have e0 : a.eval (.tmp 88) = .int .i64 (cd : Nat) := (hVe 2).symm.trans (hI.vals 2 (hdeps ⟨2, .data⟩ (by simp) rfl))
            exact Rg.valJ hk (ex_convU _ W _ _ _ (by omega) rfl e0) (fun V' hV hv => hI.quiet 3 V' hV (by decide) (fun h => absurd h (by decide)) (hv rfl))
          · intro L V a W hli hdeps hsl hVe hI K1 hk
            have e0 : a.eval (.tmp 89) = .int .u64 (cd : Nat) := (hVe 3).symm.trans (hI.vals 3 (hdeps ⟨3, .data⟩ (by simp) rfl))
            exact callJ hk (ex_bytes _ W _ _ _ _ _ _ rfl e0 rfl rfl) ((HB10.out W).mono fun e w' hh => ⟨_, hh.1, fun V' hV hv => hI.call 4 hh.2 V' hV (by decide) (fun h => absurd h (by decide)) (hv rfl)⟩)
          · intro L V a W hli hdeps hsl hVe hI K1 hk
            have e0 : a.eval (.tmp 1) = .pointer (some ⟨w.heap.size, 0, none⟩) := (hsl 1 (by decide)).trans rfl
            exact Rg.valJ hk (ex_field _ W _ w.heap.size 12 (by decide) rfl e0) (fun V' hV hv => hI.quiet 5 V' hV (by decide) (fun h => absurd h (by decide)) (hv rfl))
          · intro L V a W hli hdeps hsl hVe hI K1 hk
            have e0 : a.eval (.tmp 91) = .pointer (some ⟨w.heap.size, 12, none⟩) := (hVe 5).symm.trans (hI.vals 5 (hdeps ⟨5, .data⟩ (by simp) rfl))
            exact Rg.valJ hk (ex_info _ W _ _ _ rfl e0) (fun V' hV hv => hI.quiet 6 V' hV (by decide) (fun h => absurd h (by decide)) (hv rfl))
          · intro L V a W hli hdeps hsl hVe hI K1 hk
            have e0 : a.eval (.tmp 92) = .slice (some ⟨w.heap.size, 12, none⟩) 3 3 := (hVe 6).symm.trans (hI.vals 6 (hdeps ⟨6, .data⟩ (by simp) rfl))
            exact Rg.valJ hk (ex_convS _ W _ _ _ _ _ (.string (str J)) rfl e0 (by have hq := conv_info (HdBlk.below HBK.out hI.bel) hi0 hi1 hi2; rwa [HJ.out] at hq)) (fun V' hV hv => hI.quiet 7 V' hV (by decide) (fun h => absurd h (by decide)) (hv rfl))
          · intro L V a W hli hdeps hsl hVe hI K1 hk
            have e0 : a.eval (.tmp 90) = .string (str b10) := (hVe 4).symm.trans (hI.vals 4 (hdeps ⟨4, .data⟩ (by simp) rfl))
            have e1 : a.eval (.tmp 93) = .string (str J) := (hVe 7).symm.trans (hI.vals 7 (hdeps ⟨7, .data⟩ (by simp) rfl))
            exact Rg.valJ hk (ex_addS _ W _ _ _ _ _ (by (try simp only [List.length_append, List.length_cons, List.length_nil]); omega) (by (try simp only [List.length_append, List.length_cons, List.length_nil]); omega) rfl e0 e1) (fun V' hV hv => hI.quiet 8 V' hV (by decide) (fun h => absurd h (by decide)) (hv rfl))
          · intro L V a W hli hdeps hsl hVe hI K1 hk
            have e0 : a.eval (.tmp 86) = .string (str A3) := (hVe 0).symm.trans (hI.vals 0 (hdeps ⟨0, .data⟩ (by simp) rfl))
            have e1 : a.eval (.tmp 94) = .string (str (b10 ++ J)) := (hVe 8).symm.trans (hI.vals 8 (hdeps ⟨8, .data⟩ (by simp) rfl))
            exact Rg.valJ hk (ex_addS _ W _ _ _ _ _ (by (try simp only [List.length_append, List.length_cons, List.length_nil]); omega) (by (try simp only [List.length_append, List.length_cons, List.length_nil]); omega) rfl e0 e1) (fun V' hV hv => hI.quiet 9 V' hV (by decide) (fun h => absurd h (by decide)) (hv rfl))
          · intro L V a W hli hdeps hsl hVe hI K1 hk
            have e0 : a.eval (.tmp 95) = .string (str (A3 ++ (b10 ++ J))) := (hVe 9).symm.trans (hI.vals 9 (hdeps ⟨9, .data⟩ (by simp) rfl))
            exact Rg.valJ hk (ex_setV _ W _ _ _ rfl e0) (fun V' hV hv => hI.quiet 10 V' hV (by decide) (fun _ => hdeps ⟨0, .phase⟩ (by simp) rfl) (hv rfl))
          · intro W2 f L V hL hVf hI
            have e3 : f 3 = .string (str (A3 ++ (b10 ++ J))) := (hVf 10).symm.trans (hI.vals 10 (hL 10 (by decide)))
            have hb2 := hI.bel
            clear hI hL hVf
            simp only [Rg.puts, List.foldl_cons, List.foldl_nil, Act.put, List.setIfInBounds_toArray, List.set_cons_succ, List.set_cons_zero, e3]
            clear e3
            have HB := Lib.hid hb2; clear hb2
            go_wp2_with fail
            go_ret
            exact ⟨by rw [HF.out]; rfl, HBW.out.trans ((HB.out).mono HWS.out)⟩
    · cases hx
      have HA := Lib.hid (fun W => refHasAck_any (t : Int) W)
      rw [hA] at HA
      obtain ⟨b6, h6⟩ : ∃ b, beBytes 1 (t * 2 + 1) = b := ⟨_, rfl⟩
      obtain ⟨b7, h7⟩ : ∃ b, beBytes 6 q = b := ⟨_, rfl⟩
      have hsq : beBytes 7 q = [0] ++ b7 := by rw [← h7]; exact beBytes_zero 1 6 q hq
      have l6 := be_len h6; have l7 := be_len h7
      have HB6 := Lib.hid (refBytes_q h6 (by omega) (by decide)); have HB7 := Lib.hid (refBytes_q h7 (by omega) (by decide))
      obtain ⟨b8, h8⟩ : ∃ b, beBytes (1 + 1) 0 = b := ⟨_, rfl⟩
      obtain ⟨b9, h9⟩ : ∃ b, beBytes 6 ak = b := ⟨_, rfl⟩
      have hsa : beBytes 8 ak = b8 ++ b9 := by rw [← h8, ← h9]; exact beBytes_zero 2 6 ak hak
      have l8 := be_len h8; have l9 := be_len h9
      have HB8 := Lib.hid (refBytes_q h8 (by omega) (by decide)); have HB9 := Lib.hid (refBytes_q h9 (by omega) (by decide))
      have hfull : Hd.bytes ⟨s, d, o, c, v, u, t, true, q, ak, sv, code, i0, i1, i2⟩ = (A ++ (b6 ++ [0] ++ b7)) ++ (b8 ++ b9) := by
        obtain ⟨f1, f2, f3⟩ := HSB.out
        rw [HHB.out, f1, f2, f3]
        simp [hA, hSv, hCd, typeN, seqPad, numLen, ackPad, h6, hsq, hsa]
      have HF := Lib.hid hfull
      clear hfull h6 h7 hsq h8 h9 hsa  HHB HSB hA hSv hCd hSz
      go_upto_region 4 with fail
      clear c7
      refine Rg.regionW (by kernel_rfl) [35, 36, 37, 38, 39, 40, 41, 42, 43, 44, 45, 46, 47, 3] (VI [.string (str A), .pointer (some ⟨w.heap.size, 6, none⟩), .int .i64 (t : Nat), .int .i64 (t * 2 : Nat), .int .i64 (t * 2 + 1 : Nat), .int .u64 (t * 2 + 1 : Nat), .string (str b6), .string (str (b6 ++ [0])), .pointer (some ⟨w.heap.size, 8, none⟩), .int .u64 (q : Nat), .string (str b7), .string (str (b6 ++ [0] ++ b7)), .string (str (A ++ (b6 ++ [0] ++ b7))), .string (str (A ++ (b6 ++ [0] ++ b7)))] 13 (.string (str A)) W1.heap.size W1) (by kernel_rfl) (fun V hV => VI.start HB.out HB.out.size V ((hV 13).trans rfl)) ⟨?_, ?_, ?_, ?_, ?_, ?_, ?_, ?_, ?_, ?_, ?_, ?_, ?_, ?_, trivial⟩ ?_
      · intro L V a W hli hdeps hsl hVe hI K1 hk
        have e0 : a.eval (.tmp 3) = .string (str A) := (hVe 13).symm.trans (hI.old hli)
        exact Rg.valJ hk (ex_move _ W _ _ _ rfl e0) (fun V' hV hv => hI.quiet 0 V' hV (by decide) (fun h => absurd h (by decide)) (hv rfl))
      · intro L V a W hli hdeps hsl hVe hI K1 hk
        have e0 : a.eval (.tmp 1) = .pointer (some ⟨w.heap.size, 0, none⟩) := (hsl 1 (by decide)).trans rfl
        exact Rg.valJ hk (ex_field _ W _ w.heap.size 6 (by decide) rfl e0) (fun V' hV hv => hI.quiet 1 V' hV (by decide) (fun h => absurd h (by decide)) (hv rfl))
      · intro L V a W hli hdeps hsl hVe hI K1 hk
        have e0 : a.eval (.tmp 36) = .pointer (some ⟨w.heap.size, 6, none⟩) := (hVe 1).symm.trans (hI.vals 1 (hdeps ⟨1, .data⟩ (by simp) rfl))
        exact Rg.valJ hk (ex_load _ W _ w.heap.size 6 _ _ (.int .i64 (t : Nat)) rfl (.inl rfl) e0 ((HdBlk.below HBK.out hI.bel).cell 6 (.int .i64 (t : Nat)) rfl)) (fun V' hV hv => hI.quiet 2 V' hV (by decide) (fun h => absurd h (by decide)) (hv rfl))
      · intro L V a W hli hdeps hsl hVe hI K1 hk
        have e0 : a.eval (.tmp 37) = .int .i64 (t : Nat) := (hVe 2).symm.trans (hI.vals 2 (hdeps ⟨2, .data⟩ (by simp) rfl))
        exact Rg.valJ hk (ex_mulI _ W _ _ _ (t) (2) (by omega) rfl e0 rfl) (fun V' hV hv => hI.quiet 3 V' hV (by decide) (fun h => absurd h (by decide)) (hv rfl))
      · intro L V a W hli hdeps hsl hVe hI K1 hk
        have e0 : a.eval (.tmp 38) = .int .i64 (t * 2 : Nat) := (hVe 3).symm.trans (hI.vals 3 (hdeps ⟨3, .data⟩ (by simp) rfl))
        exact Rg.valJ hk (ex_addI _ W _ _ _ (t * 2) (1) (by omega) rfl e0 rfl) (fun V' hV hv => hI.quiet 4 V' hV (by decide) (fun h => absurd h (by decide)) (hv rfl))
      · intro L V a W hli hdeps hsl hVe hI K1 hk
        have e0 : a.eval (.tmp 39) = .int .i64 (t * 2 + 1 : Nat) := (hVe 4).symm.trans (hI.vals 4 (hdeps ⟨4, .data⟩ (by simp) rfl))
        exact Rg.valJ hk (ex_convU _ W _ _ _ (by omega) rfl e0) (fun V' hV hv => hI.quiet 5 V' hV (by decide) (fun h => absurd h (by decide)) (hv rfl))
      · intro L V a W hli hdeps hsl hVe hI K1 hk
        have e0 : a.eval (.tmp 40) = .int .u64 (t * 2 + 1 : Nat) := (hVe 5).symm.trans (hI.vals 5 (hdeps ⟨5, .data⟩ (by simp) rfl))
        exact callJ hk (ex_bytes _ W _ _ _ _ _ _ rfl e0 rfl rfl) ((HB6.out W).mono fun e w' hh => ⟨_, hh.1, fun V' hV hv => hI.call 6 hh.2 V' hV (by decide) (fun h => absurd h (by decide)) (hv rfl)⟩)
      · intro L V a W hli hdeps hsl hVe hI K1 hk
        have e0 : a.eval (.tmp 41) = .string (str b6) := (hVe 6).symm.trans (hI.vals 6 (hdeps ⟨6, .data⟩ (by simp) rfl))
        exact Rg.valJ hk (ex_addS _ W _ _ _ _ _ (by (try simp only [List.length_append, List.length_cons, List.length_nil]); omega) (by (try simp only [List.length_append, List.length_cons, List.length_nil]); omega) rfl e0 rfl) (fun V' hV hv => hI.quiet 7 V' hV (by decide) (fun h => absurd h (by decide)) (hv rfl))
      · intro L V a W hli hdeps hsl hVe hI K1 hk
        have e0 : a.eval (.tmp 1) = .pointer (some ⟨w.heap.size, 0, none⟩) := (hsl 1 (by decide)).trans rfl
        exact Rg.valJ hk (ex_field _ W _ w.heap.size 8 (by decide) rfl e0) (fun V' hV hv => hI.quiet 8 V' hV (by decide) (fun h => absurd h (by decide)) (hv rfl))
      · intro L V a W hli hdeps hsl hVe hI K1 hk
        have e0 : a.eval (.tmp 43) = .pointer (some ⟨w.heap.size, 8, none⟩) := (hVe 8).symm.trans (hI.vals 8 (hdeps ⟨8, .data⟩ (by simp) rfl))
        exact Rg.valJ hk (ex_load _ W _ w.heap.size 8 _ _ (.int .u64 (q : Nat)) rfl (.inr (.inr (.inl rfl))) e0 ((HdBlk.below HBK.out hI.bel).cell 8 (.int .u64 (q : Nat)) rfl)) (fun V' hV hv => hI.quiet 9 V' hV (by decide) (fun h => absurd h (by decide)) (hv rfl))
      · intro L V a W hli hdeps hsl hVe hI K1 hk
        have e0 : a.eval (.tmp 44) = .int .u64 (q : Nat) := (hVe 9).symm.trans (hI.vals 9 (hdeps ⟨9, .data⟩ (by simp) rfl))
        exact callJ hk (ex_bytes _ W _ _ _ _ _ _ rfl e0 rfl rfl) ((HB7.out W).mono fun e w' hh => ⟨_, hh.1, fun V' hV hv => hI.call 10 hh.2 V' hV (by decide) (fun h => absurd h (by decide)) (hv rfl)⟩)
      · intro L V a W hli hdeps hsl hVe hI K1 hk
        have e0 : a.eval (.tmp 42) = .string (str (b6 ++ [0])) := (hVe 7).symm.trans (hI.vals 7 (hdeps ⟨7, .data⟩ (by simp) rfl))
        have e1 : a.eval (.tmp 45) = .string (str b7) := (hVe 10).symm.trans (hI.vals 10 (hdeps ⟨10, .data⟩ (by simp) rfl))
        exact Rg.valJ hk (ex_addS _ W _ _ _ _ _ (by (try simp only [List.length_append, List.length_cons, List.length_nil]); omega) (by (try simp only [List.length_append, List.length_cons, List.length_nil]); omega) rfl e0 e1) (fun V' hV hv => hI.quiet 11 V' hV (by decide) (fun h => absurd h (by decide)) (hv rfl))
      · intro L V a W hli hdeps hsl hVe hI K1 hk
        have e0 : a.eval (.tmp 35) = .string (str A) := (hVe 0).symm.trans (hI.vals 0 (hdeps ⟨0, .data⟩ (by simp) rfl))
        have e1 : a.eval (.tmp 46) = .string (str (b6 ++ [0] ++ b7)) := (hVe 11).symm.trans (hI.vals 11 (hdeps ⟨11, .data⟩ (by simp) rfl))
        exact Rg.valJ hk (ex_addS _ W _ _ _ _ _ (by (try simp only [List.length_append, List.length_cons, List.length_nil]); omega) (by (try simp only [List.length_append, List.length_cons, List.length_nil]); omega) rfl e0 e1) (fun V' hV hv => hI.quiet 12 V' hV (by decide) (fun h => absurd h (by decide)) (hv rfl))
      · intro L V a W hli hdeps hsl hVe hI K1 hk
        have e0 : a.eval (.tmp 47) = .string (str (A ++ (b6 ++ [0] ++ b7))) := (hVe 12).symm.trans (hI.vals 12 (hdeps ⟨12, .data⟩ (by simp) rfl))
        exact Rg.valJ hk (ex_setV _ W _ _ _ rfl e0) (fun V' hV hv => hI.quiet 13 V' hV (by decide) (fun _ => hdeps ⟨0, .phase⟩ (by simp) rfl) (hv rfl))
      · intro W2 f L V hL hVf hI
        have e3 : f 3 = .string (str (A ++ (b6 ++ [0] ++ b7))) := (hVf 13).symm.trans (hI.vals 13 (hL 13 (by decide)))
        have hb2 := hI.bel
        clear hI hL hVf
        simp only [Rg.puts, List.foldl_cons, List.foldl_nil, Act.put, List.setIfInBounds_toArray, List.set_cons_succ, List.set_cons_zero, e3]
        clear e3
        have HB := Lib.hid hb2; clear hb2
        have hk2 := HdBlk.below HBK.out HB.out
        have c6 := hk2.cell 6 (.int .i64 (t : Int)) rfl
        clear hk2
        obtain ⟨A2, hA2⟩ : ∃ A2, A ++ (b6 ++ [0] ++ b7) = A2 := ⟨_, rfl⟩
        have lA2 : A2.length ≤ 100 := by rw [← hA2]; simp only [List.length_append, List.length_cons, List.length_nil]; omega
        rw [hA2] at HF ⊢
        clear hA2
        go_upto_region 8 with (go_at_call 10; with_reducible refine (HA.out _).mono ?_; rintro e w5 ⟨rfl, rfl⟩)
        clear c6
        refine Rg.regionW (by kernel_rfl) [62, 63, 64, 65, 66, 67, 68, 69, 70, 71, 72, 3] (VI [.string (str A2), .int .i64 (6 : Nat), .int .i64 (1 : Nat), .int .i64 (1 + 1 : Nat), .string (str b8), .pointer (some ⟨w.heap.size, 9, none⟩), .int .u64 (ak : Nat), .int .i64 (6 : Nat), .string (str b9), .string (str (b8 ++ b9)), .string (str (A2 ++ (b8 ++ b9))), .string (str (A2 ++ (b8 ++ b9)))] 11 (.string (str A2)) W1.heap.size W1) (by kernel_rfl) (fun V hV => VI.start HB.out HB.out.size V ((hV 11).trans rfl)) ⟨?_, ?_, ?_, ?_, ?_, ?_, ?_, ?_, ?_, ?_, ?_, ?_, trivial⟩ ?_
        · intro L V a W hli hdeps hsl hVe hI K1 hk
          have e0 : a.eval (.tmp 3) = .string (str A2) := (hVe 11).symm.trans (hI.old hli)
          exact Rg.valJ hk (ex_move _ W _ _ _ rfl e0) (fun V' hV hv => hI.quiet 0 V' hV (by decide) (fun h => absurd h (by decide)) (hv rfl))
        · intro L V a W hli hdeps hsl hVe hI K1 hk
          have e0 : a.eval (.tmp 4) = .int .i64 (6 : Nat) := (hsl 4 (by decide)).trans rfl
          exact Rg.valJ hk (ex_move _ W _ _ _ rfl e0) (fun V' hV hv => hI.quiet 1 V' hV (by decide) (fun h => absurd h (by decide)) (hv rfl))
        · intro L V a W hli hdeps hsl hVe hI K1 hk
          have e0 : a.eval (.tmp 63) = .int .i64 (6 : Nat) := (hVe 1).symm.trans (hI.vals 1 (hdeps ⟨1, .data⟩ (by simp) rfl))
          exact Rg.valJ hk (ex_quo6 _ W _ _ _ _ (.inl ⟨rfl, rfl⟩) rfl e0 rfl) (fun V' hV hv => hI.quiet 2 V' hV (by decide) (fun h => absurd h (by decide)) (hv rfl))
        · intro L V a W hli hdeps hsl hVe hI K1 hk
          have e1 : a.eval (.tmp 64) = .int .i64 (1 : Nat) := (hVe 2).symm.trans (hI.vals 2 (hdeps ⟨2, .data⟩ (by simp) rfl))
          exact Rg.valJ hk (ex_addI _ W _ _ _ (1) (1) (by omega) rfl rfl e1) (fun V' hV hv => hI.quiet 3 V' hV (by decide) (fun h => absurd h (by decide)) (hv rfl))
        · intro L V a W hli hdeps hsl hVe hI K1 hk
          have e1 : a.eval (.tmp 65) = .int .i64 (1 + 1 : Nat) := (hVe 3).symm.trans (hI.vals 3 (hdeps ⟨3, .data⟩ (by simp) rfl))
          exact callJ hk (ex_bytes _ W _ _ _ _ _ _ rfl rfl e1 rfl) ((HB8.out W).mono fun e w' hh => ⟨_, hh.1, fun V' hV hv => hI.call 4 hh.2 V' hV (by decide) (fun h => absurd h (by decide)) (hv rfl)⟩)
        · intro L V a W hli hdeps hsl hVe hI K1 hk
          have e0 : a.eval (.tmp 1) = .pointer (some ⟨w.heap.size, 0, none⟩) := (hsl 1 (by decide)).trans rfl
          exact Rg.valJ hk (ex_field _ W _ w.heap.size 9 (by decide) rfl e0) (fun V' hV hv => hI.quiet 5 V' hV (by decide) (fun h => absurd h (by decide)) (hv rfl))
        · intro L V a W hli hdeps hsl hVe hI K1 hk
          have e0 : a.eval (.tmp 67) = .pointer (some ⟨w.heap.size, 9, none⟩) := (hVe 5).symm.trans (hI.vals 5 (hdeps ⟨5, .data⟩ (by simp) rfl))
          exact Rg.valJ hk (ex_load _ W _ w.heap.size 9 _ _ (.int .u64 (ak : Nat)) rfl (.inr (.inr (.inl rfl))) e0 ((HdBlk.below HBK.out hI.bel).cell 9 (.int .u64 (ak : Nat)) rfl)) (fun V' hV hv => hI.quiet 6 V' hV (by decide) (fun h => absurd h (by decide)) (hv rfl))
        · intro L V a W hli hdeps hsl hVe hI K1 hk
          have e0 : a.eval (.tmp 4) = .int .i64 (6 : Nat) := (hsl 4 (by decide)).trans rfl
          exact Rg.valJ hk (ex_move _ W _ _ _ rfl e0) (fun V' hV hv => hI.quiet 7 V' hV (by decide) (fun h => absurd h (by decide)) (hv rfl))
        · intro L V a W hli hdeps hsl hVe hI K1 hk
          have e0 : a.eval (.tmp 68) = .int .u64 (ak : Nat) := (hVe 6).symm.trans (hI.vals 6 (hdeps ⟨6, .data⟩ (by simp) rfl))
          have e1 : a.eval (.tmp 69) = .int .i64 (6 : Nat) := (hVe 7).symm.trans (hI.vals 7 (hdeps ⟨7, .data⟩ (by simp) rfl))
          exact callJ hk (ex_bytes _ W _ _ _ _ _ _ rfl e0 e1 rfl) ((HB9.out W).mono fun e w' hh => ⟨_, hh.1, fun V' hV hv => hI.call 8 hh.2 V' hV (by decide) (fun h => absurd h (by decide)) (hv rfl)⟩)
        · intro L V a W hli hdeps hsl hVe hI K1 hk
          have e0 : a.eval (.tmp 66) = .string (str b8) := (hVe 4).symm.trans (hI.vals 4 (hdeps ⟨4, .data⟩ (by simp) rfl))
          have e1 : a.eval (.tmp 70) = .string (str b9) := (hVe 8).symm.trans (hI.vals 8 (hdeps ⟨8, .data⟩ (by simp) rfl))
          exact Rg.valJ hk (ex_addS _ W _ _ _ _ _ (by (try simp only [List.length_append, List.length_cons, List.length_nil]); omega) (by (try simp only [List.length_append, List.length_cons, List.length_nil]); omega) rfl e0 e1) (fun V' hV hv => hI.quiet 9 V' hV (by decide) (fun h => absurd h (by decide)) (hv rfl))
        · intro L V a W hli hdeps hsl hVe hI K1 hk
          have e0 : a.eval (.tmp 62) = .string (str A2) := (hVe 0).symm.trans (hI.vals 0 (hdeps ⟨0, .data⟩ (by simp) rfl))
          have e1 : a.eval (.tmp 71) = .string (str (b8 ++ b9)) := (hVe 9).symm.trans (hI.vals 9 (hdeps ⟨9, .data⟩ (by simp) rfl))
          exact Rg.valJ hk (ex_addS _ W _ _ _ _ _ (by (try simp only [List.length_append, List.length_cons, List.length_nil]); omega) (by (try simp only [List.length_append, List.length_cons, List.length_nil]); omega) rfl e0 e1) (fun V' hV hv => hI.quiet 10 V' hV (by decide) (fun h => absurd h (by decide)) (hv rfl))
        · intro L V a W hli hdeps hsl hVe hI K1 hk
          have e0 : a.eval (.tmp 72) = .string (str (A2 ++ (b8 ++ b9))) := (hVe 10).symm.trans (hI.vals 10 (hdeps ⟨10, .data⟩ (by simp) rfl))
          exact Rg.valJ hk (ex_setV _ W _ _ _ rfl e0) (fun V' hV hv => hI.quiet 11 V' hV (by decide) (fun _ => hdeps ⟨0, .phase⟩ (by simp) rfl) (hv rfl))
        · intro W2 f L V hL hVf hI
          have e3 : f 3 = .string (str (A2 ++ (b8 ++ b9))) := (hVf 11).symm.trans (hI.vals 11 (hL 11 (by decide)))
          have hb2 := hI.bel
          clear hI hL hVf
          simp only [Rg.puts, List.foldl_cons, List.foldl_nil, Act.put, List.setIfInBounds_toArray, List.set_cons_succ, List.set_cons_zero, e3]
          clear e3
          have HB := Lib.hid hb2; clear hb2
          have hk2 := HdBlk.below HBK.out HB.out
          have c6 := hk2.cell 6 (.int .i64 (t : Int)) rfl
          clear hk2
          obtain ⟨A3, hA3⟩ : ∃ A3, A2 ++ (b8 ++ b9) = A3 := ⟨_, rfl⟩
          have lA3 : A3.length ≤ 200 := by rw [← hA3]; simp only [List.length_append, List.length_cons, List.length_nil]; omega
          rw [hA3] at HF ⊢
          clear hA3
          go_wp2_with (go_at_call 10; with_reducible refine (HA.out _).mono ?_; rintro e w5 ⟨rfl, rfl⟩)
          go_ret
          exact ⟨by rw [HF.out]; rfl, HBW.out.trans ((HB.out).mono HWS.out)⟩

theorem refPut_any (h : Hd) (hok : h.ok) (hm : h.mayB = true) (w : World) :
    Calls Tryz.prog 16 #[h.val] w fun e w' => e = .returned (.string (str h.bytes)) ∧ Below w.heap.size w w' := by
  obtain ⟨⟨s1, s2⟩, ⟨d1, d2⟩, ⟨o1, o2⟩, ⟨c1, c2⟩, ⟨v1, v2⟩, ⟨u1, u2⟩, ⟨t1, t2⟩, k1⟩ := mayB_bounds hm
  obtain ⟨hz, _, hn, he⟩ := mayB_more hm
  obtain ⟨_, n2, n3⟩ := numbersB_parts hn
  rw [mostN_pow] at n2 n3
  obtain ⟨q1, q2, q3, q4, q5, q6⟩ := hok
  obtain ⟨src, dst, off, cc, cs, sum, type, x, seq, ack, service, code, i0, i1, i2⟩ := h
  obtain ⟨s, es⟩ := Int.eq_ofNat_of_zero_le s1
  obtain ⟨d, ed⟩ := Int.eq_ofNat_of_zero_le d1
  obtain ⟨o, eo⟩ := Int.eq_ofNat_of_zero_le o1
  obtain ⟨c, ec⟩ := Int.eq_ofNat_of_zero_le c1
  obtain ⟨v, ev⟩ := Int.eq_ofNat_of_zero_le v1
  obtain ⟨u, eu⟩ := Int.eq_ofNat_of_zero_le u1
  obtain ⟨t, et⟩ := Int.eq_ofNat_of_zero_le t1
  simp only at es ed eo ec ev eu et
  subst es ed eo ec ev eu et
  simp only at s2 d2 o2 c2 v2 u2 t2 hz n2 n3 k1
  exact refPut_walk s d o c v u t x seq ack service code i0 i1 i2 _ rfl (by omega) (by omega) (by omega) (by omega) (by omega) (by omega) (by omega) hz n2 n3 q3 k1 q4 q5 q6 w
end Go.Proofs.YtcdhllajdpalaaaGreatDoor
