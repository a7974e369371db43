import Derived.Test.YtmhcfaaggkidjaaGreatDoorJ21
set_option linter.unusedSimpArgs false
set_option linter.unusedVariables false
section
namespace Go.Proofs.YtmhcfaaggkidjaaGreatDoor
open Go.RowKit Go.Extern.Stop Go.Stop Go.Extern
def Et (w:World):Prop:=w.cell? ⟨4,0,none⟩=some (.iface 320 (.agg #[.pointer (some ⟨10,46,none⟩)]))
theorem Et.since {w w':World} (h:Et w) (hs:Since w w'):Et w':=by
 unfold Et at *;rw[hs.cell (p:=⟨4,0,none⟩) (World.block_lt_of_cell? w _ h)];exact h
set_option maxHeartbeats 1000000 in
set_option maxRecDepth 100000 in
theorem Qn (n:Int) (w:World) (hg:Et w):Calls Tryz.prog 147 #[.iface 32 (.int .i64 n)] w fun e w'=>e=.returned (.int .i64 n)∧Since w w':=by
 have hg2:(w.alloc (.cells #[.int .i64 0] 32)).cell? ⟨4,0,none⟩=some (.iface 320 (.agg #[.pointer (some ⟨10,46,none⟩)])):=Et.since hg ((Since.refl w).alloc _);have ht:(w.alloc (.cells #[.int .i64 0] 32)).cell? ⟨w.heap.size,0,none⟩=some (.int .i64 0):=by simp
 have hf:(w.alloc (.cells #[.int .i64 0] 32)).frozen? ⟨w.heap.size,0,none⟩=false:=by simp
 have HG:=(show Hid _ from hg2)
 clear hg hg2;go_enter Tryz.func147,Tryz.ntmps147
 go_wp2_with fail
 refine(Xy n ⟨w.heap.size,0,none⟩ (.int .i64 0) _ HG.out ht hf).mono ?_;rintro e w' ⟨rfl,hw'⟩;have hc:w'.cell? ⟨w.heap.size,0,none⟩=some (.int .i64 n):=by
  rw[hw'];refine World.cell?_setCell_same (u:=.int .i64 0) _ _ _ ?_;rw[World.cell?_alloc_lt _ _ ⟨w.heap.size,0,none⟩ (by simp;omega),World.cell?_alloc_lt _ _ ⟨w.heap.size,0,none⟩ (by simp;omega),World.cell?_alloc_lt _ _ ⟨w.heap.size,0,none⟩ (by simp;omega),World.cell?_alloc_lt _ _ ⟨w.heap.size,0,none⟩ (by simp)];exact ht
 have hS:Since w w':=by
  rw[hw'];exact(((((((Since.refl w).alloc _).alloc _).alloc _).alloc _).alloc _)).setCell (Nat.le_refl _) _
 clear hw' ht hf HG;go_wp2_with fail
 go_ret;exact⟨rfl,hS⟩
end Go.Proofs.YtmhcfaaggkidjaaGreatDoor
end
section
namespace Go.Proofs.YtmhcfaaggkidjaaGreatDoor
open Go.RowKit Go.Extern.Stop Go.Stop Go.Extern
end Go.Proofs.YtmhcfaaggkidjaaGreatDoor
end
