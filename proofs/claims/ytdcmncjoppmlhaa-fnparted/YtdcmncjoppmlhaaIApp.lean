/-
 Contracts: one change on a map of pairs.
-/
import Derived.Test.YtdcmncjoppmlhaaMapP
import Derived.Test.YtdcmncjoppmlhaaBatOk
import Derived.Maps.OwnOps
import Derived.Deep.RegionHeld3
namespace Go.Proofs.Ytdcmncjoppmlhaa
open Go.RowKit Go.Maps
set_option linter.unusedVariables false
theorem lawS:Keyed Try.prog 9:=string_keyed Try.underlying9
theorem findsS (k v : List UInt8) : ∀ w, Sem.run Try.prog (method 241 82 (.agg #[.string ⟨k.toArray⟩, .string ⟨v.toArray⟩]) "loop.example/g00226/impl.key") w = .ok (95, .agg #[.string ⟨k.toArray⟩, .string ⟨v.toArray⟩]) w := fun w => by kernel_rfl
theorem findsC (k : List UInt8) : ∀ w, Sem.run Try.prog (method 241 84 (.string ⟨k.toArray⟩) "loop.example/g00226/impl.key") w = .ok (96, .string ⟨k.toArray⟩) w := fun w => by kernel_rfl
theorem taSS (k v:List UInt8):∀ w,Sem.run Try.prog (Instr.typeAssert (.iface 82 (.agg #[.string ⟨k.toArray⟩,.string ⟨v.toArray⟩])) 63 82 true) w=.ok (.tuple #[.agg #[.string ⟨k.toArray⟩,.string ⟨v.toArray⟩],.bool true]) w:=fun w=>by kernel_rfl
theorem taCS (k:List UInt8):∀ w,Sem.run Try.prog (Instr.typeAssert (.iface 84 (.string ⟨k.toArray⟩)) 63 82 true) w=.ok (.tuple #[.agg #[.string ⟨#[]⟩,.string ⟨#[]⟩],.bool false]) w:=fun w=>by kernel_rfl
theorem taCC (k:List UInt8):∀ w,Sem.run Try.prog (Instr.typeAssert (.iface 84 (.string ⟨k.toArray⟩)) 63 84 true) w=.ok (.tuple #[.string ⟨k.toArray⟩,.bool true]) w:=fun w=>by kernel_rfl
set_option maxRecDepth 100000 in
theorem impl_keyS (k v:List UInt8) (w:World):Calls Try.prog 95 #[.agg #[.string ⟨k.toArray⟩,.string ⟨v.toArray⟩]] w fun e w'=>e=.returned (.string ⟨k.toArray⟩)∧Below w.heap.size w w':=by
 go_enter Try.func95,Try.ntmps95
 go_wp2
 go_ret
 exact⟨rfl,(Below.refl _ _).alloc (Nat.le_refl _) _⟩
set_option maxRecDepth 100000 in
theorem impl_keyC (k:List UInt8) (w:World):Calls Try.prog 96 #[.string ⟨k.toArray⟩] w fun e w'=>e=.returned (.string ⟨k.toArray⟩)∧w'=w:=by
 go_enter Try.func96,Try.ntmps96
 go_wp2
 go_ret
 exact⟨rfl,rfl⟩
set_option maxRecDepth 100000 in
set_option maxHeartbeats 1000000 in
theorem impl_apply (mb n:Nat) (D:DataW Value) (L:List PairL) (o:OpL) (w:World) (hk:o.1.length≤1048576) (hv:o.2.1.length≤1048576) (hok:opOk o=true) (hn:n<1048576) (hr:Rise L) (hD:MapIs D L) (ho:w.ownsMap Try.prog 9 pvR mb n D) :
 Calls Try.prog 28 #[.map (some mb),chV o] w fun e w'=>e=.returned (.tuple #[])∧∃ D',MapIs D' (setL L o.1 o.2.1)∧w'.ownsMap Try.prog 9 pvR mb (n+1) D'∧w.grownBy w' (some mb):=by
 obtain⟨k,v,c⟩:=o
 have hkey:keyOf Try.prog 9 (.string ⟨k.toArray⟩)=some (.string k):=by
  have hk':k.length≤1048576:=hk
  have:=WideMaps.keyOf_string_mk (P:=Try.prog) Try.underlying9 (s:=⟨k.toArray⟩) (by simp[ByteArray.size,maxLen];omega)
  simpa using this
 cases c with
 | true =>
   have hp:k.length≤12∧v=[]:=by simpa [opOk] using hok
   obtain⟨hk12,rfl⟩:=hp
   have fC:=findsC k
   have t1:=taCS k
   have t2:=taCC k
   have KC:=impl_keyC k
   have HD:Hid (MapIs D L):=hD
   have HR:Hid (Rise L):=hr
   have HO:Hid (w.ownsMap Try.prog 9 pvR mb n D):=ho
   clear hD hr ho hok
   show Calls Try.prog 28 #[.map (some mb),.iface 84 (.string ⟨k.toArray⟩)] w _
   go_enter Try.func28,Try.ntmps28
   have HK:Hid (keyOf Try.prog 9 (.string ⟨k.toArray⟩)=some (.string k)):=hkey
   clear hkey
   obtain⟨w2,hrun,hown2,hturn2⟩:=HO.out.drop lawS Try.underlying61 HK.out 0
   have H2:Hid (w2.ownsMap Try.prog 9 pvR mb n (D.del (.string k))∧w.mapTurned w2 mb):=⟨hown2,hturn2⟩
   clear hown2 hturn2
   go_wp2_with (first
    | (go_at_call 96;refine (KC _).mono ?_;rintro e w1 ⟨rfl,rfl⟩))
   go_end0
   exact⟨rfl,_,HD.out.cut HR.out k,H2.out.1.mono (by omega),H2.out.2.grown⟩
 | false =>
   have hp:k.length≤12∧v≠[]∧v.length≤60:=by simpa [opOk] using hok
   obtain⟨hk12,hv0,hv60⟩:=hp
   have fS:=findsS k v
   have t1:=taSS k v
   have KS:=impl_keyS k v
   have HD:Hid (MapIs D L):=hD
   have HR:Hid (Rise L):=hr
   have HO:Hid (w.ownsMap Try.prog 9 pvR mb n D):=ho
   have HV:Hid (v≠[]):=hv0
   clear hD hr ho hok hv0
   show Calls Try.prog 28 #[.map (some mb),.iface 82 (.agg #[.string ⟨k.toArray⟩,.string ⟨v.toArray⟩])] w _
   go_enter Try.func28,Try.ntmps28
   have HK:Hid (keyOf Try.prog 9 (.string ⟨k.toArray⟩)=some (.string k)):=hkey
   have A0:=heap_alloc_new w (.cells #[.string ⟨k.toArray⟩,.string ⟨v.toArray⟩] 82)
   have HO1:Hid ((w.alloc (.cells #[.string ⟨k.toArray⟩,.string ⟨v.toArray⟩] 82)).ownsMap Try.prog 9 pvR mb n D):=HO.out.alloc _
   have HG1:Hid (w.grownBy (w.alloc (.cells #[.string ⟨k.toArray⟩,.string ⟨v.toArray⟩] 82)) (some mb)):=World.grownBy_alloc w _ _
   have HLT:Hid (mb<w.heap.size):=HO.out.lt
   obtain⟨wa,hwa⟩:∃ wa,wa=w.alloc (.cells #[.string ⟨k.toArray⟩,.string ⟨v.toArray⟩] 82):=⟨_,rfl⟩
   have Sa:∀ W:World,W.heap[w.heap.size]? = some (.cells #[.string ⟨k.toArray⟩,.string ⟨v.toArray⟩] 82 (0,0))→W.cell? ⟨w.heap.size,0,none⟩=some (.string ⟨k.toArray⟩)∧W.cell? ⟨w.heap.size,1,none⟩=some (.string ⟨v.toArray⟩):=fun W hW=>(by
    constructor <;> simp only[World.cell?,hW] <;> rfl)
   have HSa:Hid (∀ W:World,W.heap[w.heap.size]? = some (.cells #[.string ⟨k.toArray⟩,.string ⟨v.toArray⟩] 82 (0,0))→W.cell? ⟨w.heap.size,0,none⟩=some (.string ⟨k.toArray⟩)∧W.cell? ⟨w.heap.size,1,none⟩=some (.string ⟨v.toArray⟩)):=Sa
   clear hkey Sa
   go_wp2_with fail
   rw[←hwa] at A0 HO1 HG1 ⊢
   have X0:Hid (wa.heap[w.heap.size]? = some (.cells #[.string ⟨k.toArray⟩,.string ⟨v.toArray⟩] 82 (0,0))):=A0
   have KS2:=KS wa.drew
   have Sd:Hid (wa.drew.cell? ⟨w.heap.size,0,none⟩=some (.string ⟨k.toArray⟩)∧wa.drew.cell? ⟨w.heap.size,1,none⟩=some (.string ⟨v.toArray⟩)):=HSa.out wa.drew X0.out
   clear KS A0 hwa
   go_region_held3 (fun w'=>w'.cell? ⟨w.heap.size,0,none⟩=some (.string ⟨k.toArray⟩)∧w'.cell? ⟨w.heap.size,1,none⟩=some (.string ⟨v.toArray⟩))
    (first | with_reducible exact S5.out | with_reducible exact S4.out | with_reducible exact Sd.out)
    ((go_at_call 95
      with_reducible refine KS2.mono ?_
      rintro e w4 ⟨rfl,b4'⟩
      have b4:Below wa.heap.size wa w4:=⟨b4'.os,b4'.tape,b4'.output,b4'.size,b4'.block⟩
      have X4:Hid (w4.heap[w.heap.size]? = some (.cells #[.string ⟨k.toArray⟩,.string ⟨v.toArray⟩] 82 (0,0))):=(b4.block w.heap.size (lt_of_block X0.out)).trans X0.out
      have S4:Hid (w4.cell? ⟨w.heap.size,0,none⟩=some (.string ⟨k.toArray⟩)∧w4.cell? ⟨w.heap.size,1,none⟩=some (.string ⟨v.toArray⟩)):=HSa.out w4 X4.out
      have g4:wa.grownBy w4 none:=⟨b4.os,b4.tape,b4.output,b4.size,fun q hq _=>b4.block q hq⟩
      have G4:w.grownBy w4 (some mb):=HG1.out.trans ⟨b4.os,b4.tape,b4.output,b4.size,fun q hq _=>b4.block q hq⟩
      obtain⟨w5,hrun5,hm5,hg5⟩:=(HO1.out.kept g4 (by simp)).update (t:=61) (e:=54) lawS Try.underlying61 (by unfold maxLen;omega) HK.out (pvR_pv (k,v))
      have M5:Hid (w5.ownsMap Try.prog 9 pvR mb (n+1) (D.put (.string k) (.held (pv (k,v))))):=hm5
      have G5:Hid (w.grownBy w5 (some mb)):=G4.trans hg5
      have X5:=(hg5.block w.heap.size (lt_of_block X4.out) (by simp;have:=HLT.out;omega)).trans X4.out
      have S5:Hid (w5.cell? ⟨w.heap.size,0,none⟩=some (.string ⟨k.toArray⟩)∧w5.cell? ⟨w.heap.size,1,none⟩=some (.string ⟨v.toArray⟩)):=HSa.out w5 X5
      unfold pv at hrun5
      clear b4' b4 hm5 hg5 X5 g4 G4))
   all_goals
    go_wp2
    go_end0
    exact⟨rfl,_,HD.out.set HR.out k v HV.out,M5.out,G5.out⟩
end Go.Proofs.Ytdcmncjoppmlhaa
