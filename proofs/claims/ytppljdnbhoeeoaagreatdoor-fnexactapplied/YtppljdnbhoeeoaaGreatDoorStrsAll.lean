/-
 Texts that are laid as one: SStr, Strs.
-/
import Derived.Test.YtppljdnbhoeeoaaGreatDoorMath2
import Derived.BigQuiet
namespace Go.Proofs.YtppljdnbhoeeoaaGreatDoor
open Go.RowKit
set_option linter.unusedVariables false
set_option maxHeartbeats 400000
set_option maxRecDepth 100000
def zt (w:World) (a:Option Addr) (ls:List (List UInt8)):Prop :=
 ls=[]∨∃ b off,a=some ⟨b,off,none⟩∧∀ j (h:j<ls.length),w.cell? ⟨b,off+j,none⟩=some (.string ⟨ls[j].toArray⟩)
theorem zfs (n:Nat) (w:World) (h0:0<n) (hn:n<1000000000000) :
 Calls Tryz.prog 69 #[.int .i64 n] w fun e w'=>e=.returned (.string ⟨(markT n).toArray⟩)∧Below w.heap.size w w':=by
 have HN:Hid (n<10 ^ 20):=by rw[Hid];omega
 have h0':¬ (n:Int)≤0:=by omega
 go_enter Tryz.func69,Tryz.ntmps69
 go_wp2
 go_loopw [0,3] (fun v t wr=>∃ f m:Nat,∃ l:List UInt8,m≤n∧v=.int .i64 (m:Int)∧t=.string ⟨l.toArray⟩∧Hid (m<10 ^ f)∧Hid (decF f m ++ l=decF 20 n)∧Hid (l.length+f=20)∧Below w.heap.size w wr) (fun v _ _=>(intOf v).toNat)
 case atStart=>exact⟨20,n,[],Nat.le_refl _,rfl,rfl,HN,by rw[Hid];simp,rfl,Below.refl _ _⟩
 case round =>
  obtain⟨f,m,l,hm,rfl,rfl,HF,HL,HZ,hbel⟩:=hrel
  have hsz:=hbel.size
  have hln:l.length≤20:=by have:=HZ.out;omega
  by_cases hlt:0<m
  · obtain⟨f',hf'⟩:∃ f',f=f'+1:=by
     cases f with
     | zero=>have:=HF.out;simp at this;omega
     | succ f'=>exact⟨f',rfl⟩
    subst hf'
    have hst:=zz8 f' m HF.out hlt
    obtain⟨c,hc⟩:∃ c,c=UInt8.ofNat (48+m % 10):=⟨_,rfl⟩
    rw[←hc] at hst
    have HF':Hid (m / 10<10 ^ f'):=hst.2
    have HL':Hid (decF f' (m / 10) ++ (c :: l)=decF 20 n):=by rw[Hid,←HL.out,hst.1];simp
    have HZ':Hid ((c :: l).length+f'=20):=by rw[Hid,←HZ.out];simp;omega
    have hcv:=zcv [c] #[.int .u8 (48+(m:Int) % 10)] (by simp only[ze,List.map_cons,List.map_nil];rw[hc,byte_of];congr 2;omega) 1 rfl (by decide)
    clear hst hc
    go_wp2
    go_roundw
    case rel=>exact⟨f',m / 10,c :: l,by omega,by simp,by show Value.string (ByteArray.mk #[c] ++ _)=_;rw[zgh],HF',HL',HZ',hbel.alloc hsz _⟩
    case measure=>simp[intOf];omega
  · have hz:m=0:=by omega
    subst hz
    have HR:Hid (l=decF 20 n):=by rw[Hid,←HL.out,zz7];rfl
    go_wp2
    go_ret
    exact⟨by rw[markT,←HR.out];exact congrArg (fun x=>Ending.returned (.string x)) (zgh 109 l),hbel⟩
theorem zbw {w w':World} (h:Below w.heap.size w w') (row:Option Nat):w.grownBy w' row:=⟨h.os,h.tape,h.output,h.size,fun k hk _=>h.block k hk⟩
theorem below_of_grown {w w':World} (h:w.grownBy w' none):Below w.heap.size w w':=⟨h.os,h.tape,h.output,h.size,fun k hk=>h.block k hk (by simp)⟩
end Go.Proofs.YtppljdnbhoeeoaaGreatDoor
