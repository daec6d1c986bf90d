/-
 Disks on lists: the ops of a disk, one after another; whether a disk is one.
-/
import Derived.Test.YtlllkdioojjaeaaSDo0
namespace Go.Proofs.Ytlllkdioojjaeaa
open Go.RowKit
set_option linter.unusedVariables false
def opGoes (fs:List PairL) (o:DOpL):Bool:=(doF fs o).2 && (formOk o && filesOk (doF fs o).1)
def runF:List PairL→List DOpL→Option (List PairL)
 | fs,[]=>some fs
 | fs,o :: os=>if opGoes fs o=true then runF (doF fs o).1 os else none
theorem runF_snoc:∀ (os:List DOpL) (fs:List PairL) (o:DOpL),runF fs (os ++ [o])=(runF fs os).bind fun gs=>if opGoes gs o=true then some (doF gs o).1 else none
 | [],fs,o=>by simp[runF]
 | p :: os, fs, o => by
   rw[List.cons_append,runF,runF]
   split
   · exact runF_snoc os _ o
   · rfl
theorem runF_step (os:List DOpL) (fs gs:List PairL) (j:Nat) (h:j<os.length) (hg:runF fs (os.take j)=some gs):runF fs (os.take (j+1))=if opGoes gs os[j]=true then some (doF gs os[j]).1 else none:=by
 rw[List.take_succ_eq_append_getElem h,runF_snoc,hg];rfl
theorem runF_stop:∀ (os:List DOpL) (fs:List PairL) (j:Nat),runF fs (os.take j)=none→runF fs os=none
 | [],fs,j,h=>by simpa using h
 | o :: os,fs,0,h=>by simp[runF] at h
 | o :: os, fs, j + 1, h => by
   rw[List.take_succ_cons,runF] at h
   rw[runF]
   split
   · rename_i hg
     rw[if_pos hg] at h
     exact runF_stop os _ j h
   · rfl
def diskOk (live safe:List PairL) (ops:List DOpL):Bool:=filesOk live && (filesOk safe && (decide (ops.length≤200) && decide (runF safe ops=some live)))
end Go.Proofs.Ytlllkdioojjaeaa
