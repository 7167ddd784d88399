import Derived.Test.YthmlndmlnlfhnaaGreatDoorK8f5fdaff
set_option maxRecDepth 100000
set_option maxHeartbeats 16000000
namespace Go.Proofs.YthmlndmlnlfhnaaGreatDoor
open Go.RowKit Go.Shelf
def jkz (l:List ActD) (w:World) (e:Ending) (w':World):Prop:=∃ g c vs vl,e = .returned (.tuple #[.pointer (some ⟨g,0,none⟩),.bool true])∧Mine w w' g (runV newV (l.take 50)) c vs vl
theorem jkz.of {l:List ActD} {w w':World} {g:Nat} {c:Nat→Nat} {vs:List Value} {vl:Value} (h:Mine w w' g (runV newV (l.take 50)) c vs vl):jkz l w (.returned (.tuple #[.pointer (some ⟨g,0,none⟩),.bool true])) w':=⟨g,c,vs,vl,rfl,h⟩
theorem ynd (g:Nat) (a:ActD) (r:ReplyD) (Ai:Option Addr) (li ci:Nat) (A1 A2:Option Addr) (l1 k1 l2 k2:Nat) (w:World) :
  Calls Tryz.prog 20 #[.pointer (some ⟨g,0,none⟩),.agg #[.int .i64 a.kind,.int .i64 a.n,.string a.name,.string a.text,.slice Ai li ci],.agg #[.int .i64 r.code,.int .i64 r.n,.string r.text,.slice A1 l1 k1,.slice A2 l2 k2]] w fun e w'=>e = .returned (.bool true)∧Below w.heap.size w w':=by
 go_enter Tryz.func20,Tryz.ntmps20
 go_wp2
 go_ret
 exact ⟨rfl,bx (jac w _) (jac _ _)⟩
theorem jj2 (l:List ActD) (v:Value) (w:World) (hl:Sl Enc.act w (Old w) l v) (hsz:∀ a∈l,a.name.size≤140737488355328∧a.text.size≤140737488355328) (hv:VarsOk w) :
  Calls Tryz.prog 19 #[v,.func (.func 20) #[] #[]] w (jkz l w):=by
 have HV:=Lib.hid hv
 have HL:=Lib.hid hl
 have HSZ:=Lib.hid hsz
 obtain ⟨A,cp,rfl,hc1,hc2,-⟩:=hl
 unfold maxLen at hc2
 have eg:∀ args w,(callFunc 20 args).run Tryz.prog w = .ok (.enter 20 args) w:=enters_of Tryz.func20 (by kernel_rfl) rfl
 clear hv hsz
 go_enter Tryz.func19,Tryz.ntmps19
 go_wp2_with fail
 refine (jn6 _ HV.out).mono ?_
 rintro e w1 ⟨rfl,hb1⟩
 go_wp2_with fail
 refine (jn3 _).mono ?_
 rintro e w2 ⟨rfl,hw2⟩
 have M2:Hid (Mine w w2 w1.heap.size newV (c1 w1.heap.size) new0 (.slice none 0 0)):=by rw [hw2];exact Mine.new w w1 _ hb1
 clear hw2
 go_wp2
 go_loopw [7] (fun i wr=>∃ (k:Nat) (c:Nat→Nat) (vs:List Value) (vl:Value),k≤l.length∧k≤50∧i = .int .i64 k∧Hid (Mine w wr w1.heap.size (runV newV (l.take k)) c vs vl)) (fun i _=>l.length-(intOf i).toNat)
 case atStart=>exact ⟨0,_,_,_,Nat.zero_le _,Nat.zero_le _,rfl,M2⟩
 case round =>
  clear M2
  obtain ⟨k,c,vs,vl,hk,hk5,rfl,M⟩:=hrel
  by_cases hlt:k<l.length
  ·by_cases h50:k<50
   ·have hi1:(k:Int)<l.length:=by omega
    have hi2:(k:Int)<50:=by omega
    have hi0:(0:Int)≤k:=by omega
    have hbr:=M.out.below
    have hsr:=hbr.size
    have HLr:=Lib.hid (HL.out.onOld hbr)
    obtain ⟨b,o,x,vi,rfl,hSb,hx,a0,a1,a2,a3,a4,hin⟩:=(HL.out.keep (w':=wr) (fun p hp=>hbr.cell hp)).act_at hlt
    have hbw:b<w.heap.size:=hSb
    have HIN:=Lib.hid hin
    obtain ⟨Ai,ci,rfl,-,-⟩:=hin.form
    have hsx:=HSZ.out x (List.mem_of_getElem? hx.out)
    have HT:Hid (runV newV (l.take (k+1))=(doV (runV newV (l.take k)) x).1):=jtk newV hx.out
    clear hin hSb
    have HA:Hid (jgy wr (fun b=>b<wr.heap.size∧c b=0) x (.agg #[.int .i64 x.kind,.int .i64 x.n,.string x.name,.string x.text,.slice Ai x.inp.length ci])):=⟨_,rfl,HIN.out.more fun q hq=>⟨Nat.lt_of_lt_of_le hq hsr,M.out.old q hq⟩⟩
    generalize hRT:runV newV (l.take k)=RT at *
    go_wp2_with fail
    refine (M.out.do_ HV.out x _ HA.out hsx.1 hsx.2).mono ?_
    rintro e w3 hP
    obtain ⟨A1,k1,A2,k2,c3,vs3,vl3,rfl,m3,-,-,-,-⟩:=M.out.did hP
    have M3:=Lib.hid m3
    clear hP m3
    rw [← HT.out] at M3
    generalize (doV RT x).2=R at *
    have hb3:=jac w3 (.cells #[.int .i64 R.code,.int .i64 R.n,.string R.text,.slice A1 R.answers.length k1,.slice A2 R.at_.length k2] 30)
    have C3:=Lib.hid (Cs.new w3 [.int .i64 R.code,.int .i64 R.n,.string R.text,.slice A1 R.answers.length k1,.slice A2 R.at_.length k2] 30)
    change Hid (Cs (w3.alloc (.cells #[.int .i64 R.code,.int .i64 R.n,.string R.text,.slice A1 R.answers.length k1,.slice A2 R.at_.length k2] 30)) _ _) at C3
    have M4:=Lib.hid (M3.out.next hb3)
    have hbr4:Below w.heap.size w (w3.alloc (.cells #[.int .i64 R.code,.int .i64 R.n,.string R.text,.slice A1 R.answers.length k1,.slice A2 R.at_.length k2] 30)):=M4.out.below
    have HB:Hid (∀ j,(w3.alloc (.cells #[.int .i64 R.code,.int .i64 R.n,.string R.text,.slice A1 R.answers.length k1,.slice A2 R.at_.length k2] 30)).cell? ⟨b,j,none⟩=wr.cell? ⟨b,j,none⟩):=fun j=>(hbr4.cell (p:=⟨b,j,none⟩) hbw).trans (hbr.cell (p:=⟨b,j,none⟩) hbw).symm
    have b0:=(HB.out _).trans a0
    have b1:=(HB.out _).trans a1
    have b2:=(HB.out _).trans a2
    have b3:=(HB.out _).trans a3
    have b4:=(HB.out _).trans a4
    have q0:=C3.out.at 0 rfl
    have q1:=C3.out.at 1 rfl
    have q2:=C3.out.at 2 rfl
    have q3:=C3.out.at 3 rfl
    have q4:=C3.out.at 4 rfl
    go_wp2_with fail
    generalize w3.alloc (.cells #[.int .i64 R.code,.int .i64 R.n,.string R.text,.slice A1 R.answers.length k1,.slice A2 R.at_.length k2] 30)=w4 at *
    have d0:w4.drew.cell? ⟨b,o+k*5,none⟩=_:=b0
    have d1:w4.drew.cell? ⟨b,o+k*5+1,none⟩=_:=b1
    have d2:w4.drew.cell? ⟨b,o+k*5+2,none⟩=_:=b2
    have d3:w4.drew.cell? ⟨b,o+k*5+3,none⟩=_:=b3
    have d4:w4.drew.cell? ⟨b,o+k*5+4,none⟩=_:=b4
    have p0:w4.drew.cell? ⟨w3.heap.size,0,none⟩=_:=q0
    have p1:w4.drew.cell? ⟨w3.heap.size,1,none⟩=_:=q1
    have p2:w4.drew.cell? ⟨w3.heap.size,2,none⟩=_:=q2
    have p3:w4.drew.cell? ⟨w3.heap.size,3,none⟩=_:=q3
    have p4:w4.drew.cell? ⟨w3.heap.size,4,none⟩=_:=q4
    go_region_law (first
     | (go_simp;go_at_call 20;refine (ynd w1.heap.size x R Ai x.inp.length ci A1 A2 R.answers.length k1 R.at_.length k2 _).mono ?_;rintro e w5 ⟨rfl,hb5'⟩;have hb5:Below w4.heap.size w4 w5:=jcw hb5';clear hb5'))
    all_goals
     go_wp2
     exact ⟨⟨k+1,c3,vs3,vl3,by omega,by omega,by go_num,M4.out.next hb5⟩,by simp [intOf];omega⟩
   ·have h50':¬ (k:Int)<50:=by omega
    have hi1:(k:Int)<l.length:=by omega
    obtain rfl:k=50:=by omega
    go_wp2
    go_ret2
    exact jkz.of M.out
  ·have hlt':¬ (k:Int)<l.length:=by omega
   have e1:l.take k=l:=List.take_of_length_le (by omega)
   have e2:l.take 50=l:=List.take_of_length_le (by omega)
   rw [e1] at M
   have M':Hid (Mine w wr w1.heap.size (runV newV (l.take 50)) c vs vl):=by rw [e2];exact M
   clear e1 e2
   go_wp2
   go_ret2
   exact jkz.of M'.out
end Go.Proofs.YthmlndmlnlfhnaaGreatDoor
