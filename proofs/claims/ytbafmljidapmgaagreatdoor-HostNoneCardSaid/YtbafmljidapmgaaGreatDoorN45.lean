/- Part 45 of the proof that the card of HostNone holds. -/
import Derived.Laws.EntriesVeiled
import Derived.Test.YtbafmljidapmgaaGreatDoorN44
set_option maxHeartbeats 16000000
set_option maxRecDepth 100000
namespace Go.Proofs.YtbafmljidapmgaaGreatDoor.Prs
open Go RowKit Com Par
def An3:Value:=.agg #[.func (.func 255) #[] #[],.func (.func 256) #[] #[],.func (.func 257) #[] #[],.func (.func 258) #[] #[],.func (.func 259) #[] #[],.func (.func 260) #[] #[],.func (.func 261) #[] #[],.func (.func 258) #[] #[],.func (.func 259) #[] #[],.func (.func 260) #[] #[],.func (.func 262) #[] #[],.func (.func 262) #[] #[],.func (.func 263) #[] #[],.func (.func 262) #[] #[]]
theorem Ai2 (w:World) :
  Calls Tryz.prog 198 #[] w fun e w'=>e=.returned An3/\Below w.heap.size w w':=by
 go_enter Tryz.func198,Tryz.ntmps198
 go_wp2
 exact bodyPost_ret (v:=An3) (by simp [results,Tryz.results198,go_sem,An3]) rfl ⟨rfl,Aa1 _ _⟩
def Af3 (s:Int) (n:Nat):Prop:=∀ w,(Instr.index 272 An3 (.int .u8 s)).run Tryz.prog w=.ok (.func (.func n) #[] #[]) w
theorem stepAt0:Af3 0 255:=fun _=>by kernel_rfl
theorem stepAt1:Af3 1 256:=fun _=>by kernel_rfl
theorem stepAt2:Af3 2 257:=fun _=>by kernel_rfl
theorem stepAt3:Af3 3 258:=fun _=>by kernel_rfl
theorem stepAt4:Af3 4 259:=fun _=>by kernel_rfl
theorem stepAt5:Af3 5 260:=fun _=>by kernel_rfl
theorem stepAt6:Af3 6 261:=fun _=>by kernel_rfl
theorem stepAt7:Af3 7 258:=fun _=>by kernel_rfl
theorem stepAt8:Af3 8 259:=fun _=>by kernel_rfl
theorem stepAt9:Af3 9 260:=fun _=>by kernel_rfl
theorem stepAt10:Af3 10 262:=fun _=>by kernel_rfl
theorem stepAt11:Af3 11 262:=fun _=>by kernel_rfl
theorem stepAt12:Af3 12 263:=fun _=>by kernel_rfl
theorem stepAt13:Af3 13 262:=fun _=>by kernel_rfl
structure Mid (r:Int):Prop where
 a:¬ r<0
 b:¬ 1114111<r
 c:(r == 24)=false
 d:(r == 26)=false
 e:(r == 27)=false
 f:¬ r<32
 g:r<127
theorem mid_of {r:Int} (h0:32<=r) (h1:r<127):Mid r:=⟨by omega,by omega,by simp;omega,by simp;omega,by simp;omega,by omega,h1⟩
theorem feed_ground (S:PS) (v:Value) (r:Int) (hr:Mid r) (B d:Nat) (w:World) (hd:ParIn w B d v S) (X:Stp) (hix:Af3 S.st 255)
  (hcon:∀ w1,w.heap.size<=w1.heap.size->ParIn w1 B d v S->Calls Tryz.prog 255 #[.pointer (some ⟨d,0,none⟩),.int .i32 r] w1 (Fed w1 B d v X)) :
  Calls Tryz.prog 122 #[.pointer (some ⟨d,0,none⟩),.int .i32 r] w (Fed w B d v X):=by
 have h0:=hd.blk.c0
 have hk:=J0 (fun w' (h:ParIn w' B d v S)=>h.blk.c0)
 have hdr:=J0 (hd.only (Ab2 [] w) (by simp) (by simp))
 obtain ⟨ra,rb,rc,rd,re,rf,rg⟩:=hr
 replace hcon:=J0 hcon
 have hiy:∀ w,(Instr.index 272 An3 (.int .u8 S.st)).run Tryz.prog w=.ok (.func (.func 255) #[] #[]) w:=hix
 clear hd hix
 generalize S.st=k at h0 hk hiy
 go_enter Tryz.func122,Tryz.ntmps122
 go_wp2_with fail
 go_region_with (first
  |(go_at_call 198;refine (Ai2 _).mono ?_;rintro e w1 ⟨rfl,hb1⟩;have k1:=hk.out _ (hdr.out.new hb1))
  |(go_at_call 255;refine (hcon.out _ hb1.size (hdr.out.new hb1)).mono ?_;rintro e w9 ⟨x,u,rfl,hf⟩;obtain ⟨ax,nx,cx,rfl⟩:=hf.shape;replace hf:=J0 hf))
 all_goals go_wp2
 all_goals go_ret
 all_goals exact ⟨_,u,rfl,(hf.out.after (Only.of_below hb1 [d])).after (Ab2 _ _)⟩
theorem feed_escape (S:PS) (v:Value) (r:Int) (hr:Mid r) (B d:Nat) (w:World) (hd:ParIn w B d v S) (X:Stp) (hix:Af3 S.st 256)
  (hcon:∀ w1,w.heap.size<=w1.heap.size->ParIn w1 B d v S->Calls Tryz.prog 256 #[.pointer (some ⟨d,0,none⟩),.int .i32 r] w1 (Fed w1 B d v X)) :
  Calls Tryz.prog 122 #[.pointer (some ⟨d,0,none⟩),.int .i32 r] w (Fed w B d v X):=by
 have h0:=hd.blk.c0
 have hk:=J0 (fun w' (h:ParIn w' B d v S)=>h.blk.c0)
 have hdr:=J0 (hd.only (Ab2 [] w) (by simp) (by simp))
 obtain ⟨ra,rb,rc,rd,re,rf,rg⟩:=hr
 replace hcon:=J0 hcon
 have hiy:∀ w,(Instr.index 272 An3 (.int .u8 S.st)).run Tryz.prog w=.ok (.func (.func 256) #[] #[]) w:=hix
 clear hd hix
 generalize S.st=k at h0 hk hiy
 go_enter Tryz.func122,Tryz.ntmps122
 go_wp2_with fail
 go_region_with (first
  |(go_at_call 198;refine (Ai2 _).mono ?_;rintro e w1 ⟨rfl,hb1⟩;have k1:=hk.out _ (hdr.out.new hb1))
  |(go_at_call 256;refine (hcon.out _ hb1.size (hdr.out.new hb1)).mono ?_;rintro e w9 ⟨x,u,rfl,hf⟩;obtain ⟨ax,nx,cx,rfl⟩:=hf.shape;replace hf:=J0 hf))
 all_goals go_wp2
 all_goals go_ret
 all_goals exact ⟨_,u,rfl,(hf.out.after (Only.of_below hb1 [d])).after (Ab2 _ _)⟩
theorem feed_escapeInter (S:PS) (v:Value) (r:Int) (hr:Mid r) (B d:Nat) (w:World) (hd:ParIn w B d v S) (X:Stp) (hix:Af3 S.st 257)
  (hcon:∀ w1,w.heap.size<=w1.heap.size->ParIn w1 B d v S->Calls Tryz.prog 257 #[.pointer (some ⟨d,0,none⟩),.int .i32 r] w1 (Fed w1 B d v X)) :
  Calls Tryz.prog 122 #[.pointer (some ⟨d,0,none⟩),.int .i32 r] w (Fed w B d v X):=by
 have h0:=hd.blk.c0
 have hk:=J0 (fun w' (h:ParIn w' B d v S)=>h.blk.c0)
 have hdr:=J0 (hd.only (Ab2 [] w) (by simp) (by simp))
 obtain ⟨ra,rb,rc,rd,re,rf,rg⟩:=hr
 replace hcon:=J0 hcon
 have hiy:∀ w,(Instr.index 272 An3 (.int .u8 S.st)).run Tryz.prog w=.ok (.func (.func 257) #[] #[]) w:=hix
 clear hd hix
 generalize S.st=k at h0 hk hiy
 go_enter Tryz.func122,Tryz.ntmps122
 go_wp2_with fail
 go_region_with (first
  |(go_at_call 198;refine (Ai2 _).mono ?_;rintro e w1 ⟨rfl,hb1⟩;have k1:=hk.out _ (hdr.out.new hb1))
  |(go_at_call 257;refine (hcon.out _ hb1.size (hdr.out.new hb1)).mono ?_;rintro e w9 ⟨x,u,rfl,hf⟩;obtain ⟨ax,nx,cx,rfl⟩:=hf.shape;replace hf:=J0 hf))
 all_goals go_wp2
 all_goals go_ret
 all_goals exact ⟨_,u,rfl,(hf.out.after (Only.of_below hb1 [d])).after (Ab2 _ _)⟩
theorem Bh5 (S:PS) (v:Value) (r:Int) (hr:Mid r) (B d:Nat) (w:World) (hd:ParIn w B d v S) (X:Stp) (hix:Af3 S.st 258)
  (hcon:∀ w1,w.heap.size<=w1.heap.size->ParIn w1 B d v S->Calls Tryz.prog 258 #[.pointer (some ⟨d,0,none⟩),.int .i32 r] w1 (Fed w1 B d v X)) :
  Calls Tryz.prog 122 #[.pointer (some ⟨d,0,none⟩),.int .i32 r] w (Fed w B d v X):=by
 have h0:=hd.blk.c0
 have hk:=J0 (fun w' (h:ParIn w' B d v S)=>h.blk.c0)
 have hdr:=J0 (hd.only (Ab2 [] w) (by simp) (by simp))
 obtain ⟨ra,rb,rc,rd,re,rf,rg⟩:=hr
 replace hcon:=J0 hcon
 have hiy:∀ w,(Instr.index 272 An3 (.int .u8 S.st)).run Tryz.prog w=.ok (.func (.func 258) #[] #[]) w:=hix
 clear hd hix
 generalize S.st=k at h0 hk hiy
 go_enter Tryz.func122,Tryz.ntmps122
 go_wp2_with fail
 go_region_with (first
  |(go_at_call 198;refine (Ai2 _).mono ?_;rintro e w1 ⟨rfl,hb1⟩;have k1:=hk.out _ (hdr.out.new hb1))
  |(go_at_call 258;refine (hcon.out _ hb1.size (hdr.out.new hb1)).mono ?_;rintro e w9 ⟨x,u,rfl,hf⟩;obtain ⟨ax,nx,cx,rfl⟩:=hf.shape;replace hf:=J0 hf))
 all_goals go_wp2
 all_goals go_ret
 all_goals exact ⟨_,u,rfl,(hf.out.after (Only.of_below hb1 [d])).after (Ab2 _ _)⟩
theorem Bh7 (S:PS) (v:Value) (r:Int) (hr:Mid r) (B d:Nat) (w:World) (hd:ParIn w B d v S) (X:Stp) (hix:Af3 S.st 259)
  (hcon:∀ w1,w.heap.size<=w1.heap.size->ParIn w1 B d v S->Calls Tryz.prog 259 #[.pointer (some ⟨d,0,none⟩),.int .i32 r] w1 (Fed w1 B d v X)) :
  Calls Tryz.prog 122 #[.pointer (some ⟨d,0,none⟩),.int .i32 r] w (Fed w B d v X):=by
 have h0:=hd.blk.c0
 have hk:=J0 (fun w' (h:ParIn w' B d v S)=>h.blk.c0)
 have hdr:=J0 (hd.only (Ab2 [] w) (by simp) (by simp))
 obtain ⟨ra,rb,rc,rd,re,rf,rg⟩:=hr
 replace hcon:=J0 hcon
 have hiy:∀ w,(Instr.index 272 An3 (.int .u8 S.st)).run Tryz.prog w=.ok (.func (.func 259) #[] #[]) w:=hix
 clear hd hix
 generalize S.st=k at h0 hk hiy
 go_enter Tryz.func122,Tryz.ntmps122
 go_wp2_with fail
 go_region_with (first
  |(go_at_call 198;refine (Ai2 _).mono ?_;rintro e w1 ⟨rfl,hb1⟩;have k1:=hk.out _ (hdr.out.new hb1))
  |(go_at_call 259;refine (hcon.out _ hb1.size (hdr.out.new hb1)).mono ?_;rintro e w9 ⟨x,u,rfl,hf⟩;obtain ⟨ax,nx,cx,rfl⟩:=hf.shape;replace hf:=J0 hf))
 all_goals go_wp2
 all_goals go_ret
 all_goals exact ⟨_,u,rfl,(hf.out.after (Only.of_below hb1 [d])).after (Ab2 _ _)⟩
theorem Bh6 (S:PS) (v:Value) (r:Int) (hr:Mid r) (B d:Nat) (w:World) (hd:ParIn w B d v S) (X:Stp) (hix:Af3 S.st 260)
  (hcon:∀ w1,w.heap.size<=w1.heap.size->ParIn w1 B d v S->Calls Tryz.prog 260 #[.pointer (some ⟨d,0,none⟩),.int .i32 r] w1 (Fed w1 B d v X)) :
  Calls Tryz.prog 122 #[.pointer (some ⟨d,0,none⟩),.int .i32 r] w (Fed w B d v X):=by
 have h0:=hd.blk.c0
 have hk:=J0 (fun w' (h:ParIn w' B d v S)=>h.blk.c0)
 have hdr:=J0 (hd.only (Ab2 [] w) (by simp) (by simp))
 obtain ⟨ra,rb,rc,rd,re,rf,rg⟩:=hr
 replace hcon:=J0 hcon
 have hiy:∀ w,(Instr.index 272 An3 (.int .u8 S.st)).run Tryz.prog w=.ok (.func (.func 260) #[] #[]) w:=hix
 clear hd hix
 generalize S.st=k at h0 hk hiy
 go_enter Tryz.func122,Tryz.ntmps122
 go_wp2_with fail
 go_region_with (first
  |(go_at_call 198;refine (Ai2 _).mono ?_;rintro e w1 ⟨rfl,hb1⟩;have k1:=hk.out _ (hdr.out.new hb1))
  |(go_at_call 260;refine (hcon.out _ hb1.size (hdr.out.new hb1)).mono ?_;rintro e w9 ⟨x,u,rfl,hf⟩;obtain ⟨ax,nx,cx,rfl⟩:=hf.shape;replace hf:=J0 hf))
 all_goals go_wp2
 all_goals go_ret
 all_goals exact ⟨_,u,rfl,(hf.out.after (Only.of_below hb1 [d])).after (Ab2 _ _)⟩
theorem feed_csiIgnore (S:PS) (v:Value) (r:Int) (hr:Mid r) (B d:Nat) (w:World) (hd:ParIn w B d v S) (X:Stp) (hix:Af3 S.st 261)
  (hcon:∀ w1,w.heap.size<=w1.heap.size->ParIn w1 B d v S->Calls Tryz.prog 261 #[.pointer (some ⟨d,0,none⟩),.int .i32 r] w1 (Fed w1 B d v X)) :
  Calls Tryz.prog 122 #[.pointer (some ⟨d,0,none⟩),.int .i32 r] w (Fed w B d v X):=by
 have h0:=hd.blk.c0
 have hk:=J0 (fun w' (h:ParIn w' B d v S)=>h.blk.c0)
 have hdr:=J0 (hd.only (Ab2 [] w) (by simp) (by simp))
 obtain ⟨ra,rb,rc,rd,re,rf,rg⟩:=hr
 replace hcon:=J0 hcon
 have hiy:∀ w,(Instr.index 272 An3 (.int .u8 S.st)).run Tryz.prog w=.ok (.func (.func 261) #[] #[]) w:=hix
 clear hd hix
 generalize S.st=k at h0 hk hiy
 go_enter Tryz.func122,Tryz.ntmps122
 go_wp2_with fail
 go_region_with (first
  |(go_at_call 198;refine (Ai2 _).mono ?_;rintro e w1 ⟨rfl,hb1⟩;have k1:=hk.out _ (hdr.out.new hb1))
  |(go_at_call 261;refine (hcon.out _ hb1.size (hdr.out.new hb1)).mono ?_;rintro e w9 ⟨x,u,rfl,hf⟩;obtain ⟨ax,nx,cx,rfl⟩:=hf.shape;replace hf:=J0 hf))
 all_goals go_wp2
 all_goals go_ret
 all_goals exact ⟨_,u,rfl,(hf.out.after (Only.of_below hb1 [d])).after (Ab2 _ _)⟩
theorem Ap5 (S:PS) (v:Value) (r:Int) (hr:Mid r) (B d:Nat) (w:World) (hd:ParIn w B d v S) (X:Stp) (hix:Af3 S.st 262)
  (hcon:∀ w1,w.heap.size<=w1.heap.size->ParIn w1 B d v S->Calls Tryz.prog 262 #[.pointer (some ⟨d,0,none⟩),.int .i32 r] w1 (Fed w1 B d v X)) :
  Calls Tryz.prog 122 #[.pointer (some ⟨d,0,none⟩),.int .i32 r] w (Fed w B d v X):=by
 have h0:=hd.blk.c0
 have hk:=J0 (fun w' (h:ParIn w' B d v S)=>h.blk.c0)
 have hdr:=J0 (hd.only (Ab2 [] w) (by simp) (by simp))
 obtain ⟨ra,rb,rc,rd,re,rf,rg⟩:=hr
 replace hcon:=J0 hcon
 have hiy:∀ w,(Instr.index 272 An3 (.int .u8 S.st)).run Tryz.prog w=.ok (.func (.func 262) #[] #[]) w:=hix
 clear hd hix
 generalize S.st=k at h0 hk hiy
 go_enter Tryz.func122,Tryz.ntmps122
 go_wp2_with fail
 go_region_with (first
  |(go_at_call 198;refine (Ai2 _).mono ?_;rintro e w1 ⟨rfl,hb1⟩;have k1:=hk.out _ (hdr.out.new hb1))
  |(go_at_call 262;refine (hcon.out _ hb1.size (hdr.out.new hb1)).mono ?_;rintro e w9 ⟨x,u,rfl,hf⟩;obtain ⟨ax,nx,cx,rfl⟩:=hf.shape;replace hf:=J0 hf))
 all_goals go_wp2
 all_goals go_ret
 all_goals exact ⟨_,u,rfl,(hf.out.after (Only.of_below hb1 [d])).after (Ab2 _ _)⟩
theorem feed_osc (S:PS) (v:Value) (r:Int) (hr:Mid r) (B d:Nat) (w:World) (hd:ParIn w B d v S) (X:Stp) (hix:Af3 S.st 263)
  (hcon:∀ w1,w.heap.size<=w1.heap.size->ParIn w1 B d v S->Calls Tryz.prog 263 #[.pointer (some ⟨d,0,none⟩),.int .i32 r] w1 (Fed w1 B d v X)) :
  Calls Tryz.prog 122 #[.pointer (some ⟨d,0,none⟩),.int .i32 r] w (Fed w B d v X):=by
 have h0:=hd.blk.c0
 have hk:=J0 (fun w' (h:ParIn w' B d v S)=>h.blk.c0)
 have hdr:=J0 (hd.only (Ab2 [] w) (by simp) (by simp))
 obtain ⟨ra,rb,rc,rd,re,rf,rg⟩:=hr
 replace hcon:=J0 hcon
 have hiy:∀ w,(Instr.index 272 An3 (.int .u8 S.st)).run Tryz.prog w=.ok (.func (.func 263) #[] #[]) w:=hix
 clear hd hix
 generalize S.st=k at h0 hk hiy
 go_enter Tryz.func122,Tryz.ntmps122
 go_wp2_with fail
 go_region_with (first
  |(go_at_call 198;refine (Ai2 _).mono ?_;rintro e w1 ⟨rfl,hb1⟩;have k1:=hk.out _ (hdr.out.new hb1))
  |(go_at_call 263;refine (hcon.out _ hb1.size (hdr.out.new hb1)).mono ?_;rintro e w9 ⟨x,u,rfl,hf⟩;obtain ⟨ax,nx,cx,rfl⟩:=hf.shape;replace hf:=J0 hf))
 all_goals go_wp2
 all_goals go_ret
 all_goals exact ⟨_,u,rfl,(hf.out.after (Only.of_below hb1 [d])).after (Ab2 _ _)⟩
theorem feed_mid (S:PS) (hS:S.Ok) (v:Value) (r:Int) (h0:32<=r) (h1:r<127) (B d:Nat) (w:World) (hd:ParIn w B d v S) (hB:B<=w.heap.size) :
  Calls Tryz.prog 122 #[.pointer (some ⟨d,0,none⟩),.int .i32 r] w (Fed w B d v (stepF S r)):=by
 have hr:=mid_of h0 h1
 obtain ⟨s0,s1⟩:=hS.st
 rcases (by omega:S.st=0\/S.st=1\/S.st=2\/S.st=3\/S.st=4\/S.st=5\/S.st=6\/S.st=7\/S.st=8\/S.st=9\/S.st=10\/S.st=11\/S.st=12\/S.st=13) with e|e|e|e|e|e|e|e|e|e|e|e|e|e
 ·rw [show stepF S r=groundF S r by unfold stepF;rw [if_pos e]]
  exact feed_ground S v r hr B d w hd _ (e▸stepAt0) (fun w1 _ h=>Be2 S v r B d w1 h)
 ·rw [show stepF S r=escapeF S r by simp [stepF,e]]
  exact feed_escape S v r hr B d w hd _ (e▸stepAt1) (fun w1 _ h=>escape_any S hS v r B d w1 h)
 ·rw [show stepF S r=escInterF S r by simp [stepF,e]]
  exact feed_escapeInter S v r hr B d w hd _ (e▸stepAt2) (fun w1 _ h=>Ba1 S hS v r B d w1 h)
 ·rw [show stepF S r=entryF S r by simp [stepF,e]]
  exact Bh5 S v r hr B d w hd _ (e▸stepAt3) (fun w1 _ h=>Bp0 S hS v r B d w1 h)
 ·rw [show stepF S r=paramF S r by simp [stepF,e]]
  exact Bh7 S v r hr B d w hd _ (e▸stepAt4) (fun w1 _ h=>Aw9 S hS v r B d w1 h)
 ·rw [show stepF S r=interF S r by simp [stepF,e]]
  exact Bh6 S v r hr B d w hd _ (e▸stepAt5) (fun w1 _ h=>Av7 S hS v r B d w1 h)
 ·rw [show stepF S r=csiIgnF S r by simp [stepF,e]]
  exact feed_csiIgnore S v r hr B d w hd _ (e▸stepAt6) (fun w1 _ h=>csiIgn_any S hS v r B d w1 h)
 ·rw [show stepF S r=entryF S r by simp [stepF,e]]
  exact Bh5 S v r hr B d w hd _ (e▸stepAt7) (fun w1 _ h=>Bp0 S hS v r B d w1 h)
 ·rw [show stepF S r=paramF S r by simp [stepF,e]]
  exact Bh7 S v r hr B d w hd _ (e▸stepAt8) (fun w1 _ h=>Aw9 S hS v r B d w1 h)
 ·rw [show stepF S r=interF S r by simp [stepF,e]]
  exact Bh6 S v r hr B d w hd _ (e▸stepAt9) (fun w1 _ h=>Av7 S hS v r B d w1 h)
 ·rw [show stepF S r=([],S) by simp [stepF,e]]
  exact Ap5 S v r hr B d w hd _ (e▸stepAt10) (fun w1 _ h=>At3 S v r B d w1 h)
 ·rw [show stepF S r=([],S) by simp [stepF,e]]
  exact Ap5 S v r hr B d w hd _ (e▸stepAt11) (fun w1 _ h=>At3 S v r B d w1 h)
 ·rw [show stepF S r=oscF S r by simp [stepF,e]]
  exact feed_osc S v r hr B d w hd _ (e▸stepAt12) (fun w1 hs h=>Ci2 S hS v r B d w1 h (Nat.le_trans hB hs))
 ·rw [show stepF S r=([],S) by simp [stepF,e]]
  exact Ap5 S v r hr B d w hd _ (e▸stepAt13) (fun w1 _ h=>At3 S v r B d w1 h)
theorem feedN_control {S:PS} {r:Int} (h0:¬ (r=24\/r=26)) (h1:¬ r=27) (h:r<32):feedN S r=controlF S r:=by unfold feedN;rw [if_neg h0,if_neg h1,if_pos h]
theorem feedN_mid {S:PS} {r:Int} (h0:32<=r) (h:r<127):feedN S r=stepF S r:=by unfold feedN;rw [if_neg (by omega),if_neg (by omega),if_neg (by omega),if_pos h]
theorem feedN_upper {S:PS} {r:Int} (h0:127<r) (h:r<160):feedN S r=upperF S r:=by unfold feedN;rw [if_neg (by omega),if_neg (by omega),if_neg (by omega),if_neg (by omega),if_neg (by omega),if_pos h]
theorem Ap4 {S:PS} {r:Int} (h0:160<=r):feedN S r=beyondF S r:=by unfold feedN;rw [if_neg (by omega),if_neg (by omega),if_neg (by omega),if_neg (by omega),if_neg (by omega),if_neg (by omega)]
theorem feed_in (S:PS) (hS:S.Ok) (v:Value) (r:Int) (ra:¬ r<0) (rb:¬ 1114111<r) (B d:Nat) (w:World) (hd:ParIn w B d v S) (hB:B<=w.heap.size) :
  Calls Tryz.prog 122 #[.pointer (some ⟨d,0,none⟩),.int .i32 r] w (Fed w B d v (feedN S r)):=by
 have hL:=hS.sq.num.len
 by_cases hmid:32<=r/\r<127
 ·rw [feedN_mid hmid.1 hmid.2]
  exact feed_mid S hS v r hmid.1 hmid.2 B d w hd hB
 have hd':=J0 hd
 clear hd
 by_cases h24:r=24\/r=26
 ·have hE:Hid (feedN S r=execLeadF S r):=by show _=_;unfold feedN;rw [if_pos h24]
  clear ra rb hmid
  rcases h24 with rfl|rfl
  all_goals
   go_enter Tryz.func122,Tryz.ntmps122
   go_wp2_with fail
   (refine (Ba2 S v hL _ B d w hd'.out).mono ?_;rintro e w9 ⟨x,u,rfl,hf⟩;obtain ⟨ax,nx,cx,rfl⟩:=hf.shape;replace hf:=J0 hf;go_wp2_with fail;go_ret;rw [hE.out];exact ⟨_,u,rfl,hf.out.after (Only.refl _ _)⟩)
 by_cases h27:r=27
 ·have hE:Hid (feedN S r=leadF S 1):=by show _=_;unfold feedN;rw [if_neg h24,if_pos h27]
  subst h27
  clear ra rb hmid h24
  go_enter Tryz.func122,Tryz.ntmps122
  go_wp2_with fail
  (refine (Ac5 S v hL 1 B d w hd'.out).mono ?_;rintro e w9 ⟨x,u,rfl,hf⟩;obtain ⟨ax,nx,cx,rfl⟩:=hf.shape;replace hf:=J0 hf;go_wp2_with fail;go_ret;rw [hE.out];exact ⟨_,u,rfl,hf.out.after (Only.refl _ _)⟩)
 have q24:(r == 24)=false:=by simp;omega
 have q26:(r == 26)=false:=by simp;omega
 have q27:(r == 27)=false:=by simpa using h27
 by_cases h32:r<32
 ·have hE:=J0 (feedN_control (S:=S) h24 h27 h32)
  clear h24 h27 hmid
  go_enter Tryz.func122,Tryz.ntmps122
  go_wp2_with fail
  (refine (An4 S hS v r B d w hd'.out).mono ?_;rintro e w9 ⟨x,u,rfl,hf⟩;obtain ⟨ax,nx,cx,rfl⟩:=hf.shape;replace hf:=J0 hf;go_wp2_with fail;go_ret;rw [hE.out];exact ⟨_,u,rfl,hf.out.after (Only.refl _ _)⟩)
 by_cases h127:r=127
 ·have hE:Hid (feedN S r=([],S)):=by show _=_;subst h127;rfl
  subst h127
  clear ra rb hmid h24 h27 q24 q26 q27 h32
  go_enter Tryz.func122,Tryz.ntmps122
  go_wp2_with fail
  go_ret
  rw [hE.out]
  exact An6 hd'.out
 have q127:(r == 127)=false:=by simpa using h127
 have h126:¬ r<127:=by omega
 by_cases h160:r<160
 ·have hE:=J0 (feedN_upper (S:=S) (r:=r) (by omega) h160)
  clear h24 h27 hmid h127
  go_enter Tryz.func122,Tryz.ntmps122
  go_wp2_with fail
  (refine (upper_any S hS v r B d w hd'.out).mono ?_;rintro e w9 ⟨x,u,rfl,hf⟩;obtain ⟨ax,nx,cx,rfl⟩:=hf.shape;replace hf:=J0 hf;go_wp2_with fail;go_ret;rw [hE.out];exact ⟨_,u,rfl,hf.out.after (Only.refl _ _)⟩)
 ·have hE:=J0 (Ap4 (S:=S) (r:=r) (by omega))
  clear h24 h27 hmid h127
  go_enter Tryz.func122,Tryz.ntmps122
  go_wp2_with fail
  (refine (Ay3 S hS v r B d w hd'.out hB).mono ?_;rintro e w9 ⟨x,u,rfl,hf⟩;obtain ⟨ax,nx,cx,rfl⟩:=hf.shape;replace hf:=J0 hf;go_wp2_with fail;go_ret;rw [hE.out];exact ⟨_,u,rfl,hf.out.after (Only.refl _ _)⟩)
theorem feed_any (S:PS) (hS:S.Ok) (v:Value) (r:Int) (B d:Nat) (w:World) (hd:ParIn w B d v S) (hB:B<=w.heap.size) :
  Calls Tryz.prog 122 #[.pointer (some ⟨d,0,none⟩),.int .i32 r] w (Fed w B d v (feedF S r)):=by
 by_cases ra:r<0
 ·have hE:Hid (feedF S r=beyondF S 65533):=by show _=_;unfold feedF normF;rw [if_pos (Or.inl ra)];exact Ap4 (by omega)
  have hd':=J0 hd
  clear hd
  go_enter Tryz.func122,Tryz.ntmps122
  go_wp2_with fail
  (refine (Ay3 S hS v 65533 B d w hd'.out hB).mono ?_;rintro e w9 ⟨x,u,rfl,hf⟩;obtain ⟨ax,nx,cx,rfl⟩:=hf.shape;replace hf:=J0 hf;go_wp2_with fail;go_ret;rw [hE.out];exact ⟨_,u,rfl,hf.out.after (Only.refl _ _)⟩)
 by_cases rb:1114111<r
 ·have hE:Hid (feedF S r=beyondF S 65533):=by show _=_;unfold feedF normF;rw [if_pos (Or.inr rb)];exact Ap4 (by omega)
  have hd':=J0 hd
  clear hd
  go_enter Tryz.func122,Tryz.ntmps122
  go_wp2_with fail
  (refine (Ay3 S hS v 65533 B d w hd'.out hB).mono ?_;rintro e w9 ⟨x,u,rfl,hf⟩;obtain ⟨ax,nx,cx,rfl⟩:=hf.shape;replace hf:=J0 hf;go_wp2_with fail;go_ret;rw [hE.out];exact ⟨_,u,rfl,hf.out.after (Only.refl _ _)⟩)
 ·rw [show feedF S r=feedN S r by unfold feedF normF;rw [if_neg (by omega)]]
  exact feed_in S hS v r ra rb B d w hd hB
theorem new_any (w:World):Calls Tryz.prog 38 #[] w fun e w'=>e=.returned (.pointer (some ⟨w.heap.size,0,none⟩))/\w'=w.alloc (.cells (parL start (.slice none 0 0)).toArray 160):=by
 go_enter Tryz.func38,Tryz.ntmps38
 go_wp2
 go_ret
 exact ⟨rfl,rfl⟩
end Go.Proofs.YtbafmljidapmgaaGreatDoor.Prs
namespace Go.Proofs.YtbafmljidapmgaaGreatDoor.Utf
open Go RowKit Com
theorem ret3 {a b c x y z:Int} {k l m:IntKind} (h1:a=x) (h2:b=y) (h3:c=z):Ending.returned (.tuple #[.int k a,.int l b,.int m c])=.returned (.tuple #[.int k x,.int l y,.int m z]):=by rw [h1,h2,h3]
def Ak3 (b:Int):Int:=if Ak8 b=0 then 0 else Ak8 b - 1
theorem follow_ways {b:Int} (h:128<=b) (h2:b<=255) :
  (b<194/\Ak3 b=0/\loF b=128/\hiF b=191)\/(194<=b/\b<=223/\Ak3 b=1/\loF b=128/\hiF b=191)\/(b=224/\Ak3 b=2/\loF b=160/\hiF b=191)\/(225<=b/\b<=236/\Ak3 b=2/\loF b=128/\hiF b=191) \/
  (b=237/\Ak3 b=2/\loF b=128/\hiF b=159)\/(b=238/\Ak3 b=2/\loF b=128/\hiF b=191)\/(b=239/\Ak3 b=2/\loF b=128/\hiF b=191) \/
  (b=240/\Ak3 b=3/\loF b=144/\hiF b=191)\/(241<=b/\b<=243/\Ak3 b=3/\loF b=128/\hiF b=191)\/(b=244/\Ak3 b=3/\loF b=128/\hiF b=143)\/(245<=b/\Ak3 b=0/\loF b=128/\hiF b=191):=by
 have hall:∀ n:Fin 256,128<=(n.val:Int) ->
  ((n.val:Int)<194/\Ak3 n.val=0/\loF n.val=128/\hiF n.val=191)\/(194<=(n.val:Int)/\(n.val:Int)<=223/\Ak3 n.val=1/\loF n.val=128/\hiF n.val=191)\/((n.val:Int)=224/\Ak3 n.val=2/\loF n.val=160/\hiF n.val=191)\/(225<=(n.val:Int)/\(n.val:Int)<=236/\Ak3 n.val=2/\loF n.val=128/\hiF n.val=191) \/
  ((n.val:Int)=237/\Ak3 n.val=2/\loF n.val=128/\hiF n.val=159)\/((n.val:Int)=238/\Ak3 n.val=2/\loF n.val=128/\hiF n.val=191)\/((n.val:Int)=239/\Ak3 n.val=2/\loF n.val=128/\hiF n.val=191) \/
  ((n.val:Int)=240/\Ak3 n.val=3/\loF n.val=144/\hiF n.val=191)\/(241<=(n.val:Int)/\(n.val:Int)<=243/\Ak3 n.val=3/\loF n.val=128/\hiF n.val=191)\/((n.val:Int)=244/\Ak3 n.val=3/\loF n.val=128/\hiF n.val=143)\/(245<=(n.val:Int)/\Ak3 n.val=0/\loF n.val=128/\hiF n.val=191):=by decide +kernel
 have e:((⟨b.toNat,by omega⟩:Fin 256).val:Int)=b:=by simp;omega
 have hh:=hall ⟨b.toNat,by omega⟩
 rw [e] at hh
 exact hh h
theorem Aq6 (b:Int) (h:128<=b) (h2:b<=255) (w:World):Calls Tryz.prog 297 #[.int .u8 b] w fun e w'=>e=.returned (.tuple #[.int .i64 (Ak3 b),.int .u8 (loF b),.int .u8 (hiF b)])/\w=w':=by
 rcases follow_ways h h2 with ⟨c,e1,e2,e3⟩|⟨c,d,e1,e2,e3⟩|⟨rfl,e1,e2,e3⟩|⟨c,d,e1,e2,e3⟩|⟨rfl,e1,e2,e3⟩|⟨rfl,e1,e2,e3⟩|⟨rfl,e1,e2,e3⟩|⟨rfl,e1,e2,e3⟩|⟨c,d,e1,e2,e3⟩|⟨rfl,e1,e2,e3⟩|⟨c,e1,e2,e3⟩
 all_goals
  replace e1:=J0 e1
  replace e2:=J0 e2
  replace e3:=J0 e3
  go_enter Tryz.func297,Tryz.ntmps297
  go_wp2
  go_ret3
  exact ⟨ret3 e1.out.symm e2.out.symm e3.out.symm,rfl⟩
theorem Bt5:Elem Tryz.prog 35 21 .i32 4:=by
 have h:(Tryz.prog.info? 21).map (fun i=>(i.zero,i.size,i.bytes))=some (some (.int .i32 0),1,4):=by kernel_rfl
 obtain ⟨i,h0,h1,h2,h3⟩:=info_parts h
 exact ⟨Tryz.underlying35,i,h0,h1,h2,h3⟩
