package tests

import (
	"bytes"
	"fmt"
	"slices"
	"strings"
	"testing"

	"loop.example/s02533/impl"
)

// plainBox is chapter 13 by its letter, on the functions of the chapters before it and
// on the plain device.
type plainBox struct {
	device plainDevice
	log    []byte
	record impl.Fsinfo
	s      impl.State
	ops    int
	off    bool
	// mended and replayed are how many blocks mounting has written to the other copy, and
	// how many operations of the log it has done again.
	mended, replayed int
}

func newPlainBox(m impl.Machine) *plainBox {
	return &plainBox{device: plainDevice{image: bytes.Clone(m.Disk), fuse: -1}, log: bytes.Clone(m.Log), off: true}
}

func (b *plainBox) left() impl.Machine {
	return impl.Machine{Disk: bytes.Clone(b.device.image), Log: bytes.Clone(b.log)}
}

func (b *plainBox) image() []byte { return b.device.seen() }

// step does something to the device; it says whether the power has failed.
func (b *plainBox) step(op impl.DiskOp) bool {
	if b.device.do(op).Code == impl.ErrPower {
		b.off = true
	}
	return b.off
}

// point is "a consistency point with an act".
func (b *plainBox) point(act impl.Act) int {
	out, code := impl.CpPlan(b.image(), b.s, b.ops, act)
	if code != impl.OK {
		return code
	}
	list, code := impl.CpSteps(out)
	if code != impl.OK {
		return code
	}
	for _, op := range list {
		if b.step(op) {
			return impl.ErrPower
		}
	}
	b.record = out.Info
	b.log = impl.LogDrop(b.log, b.ops)
	return impl.OK
}

// mount is mounting; the power stays off unless it is OK.
func (b *plainBox) mount() int {
	b.off = false
	code := b.tryMount()
	if code != impl.OK {
		b.off = true
	}
	return code
}

func (b *plainBox) tryMount() int {
	f, at, chosen := impl.ChooseFsinfo(b.image())
	_, mapped := impl.MapWords(b.image())
	_, listed := impl.Snapshots(b.image())
	s, loaded := impl.LoadState(b.image())
	if chosen != impl.OK || mapped != impl.OK || listed != impl.OK || loaded != impl.OK {
		return impl.ErrCorrupt
	}
	b.record, b.s, b.ops = f, s, f.Ops
	other := 1 - at
	if !bytes.Equal(b.image()[512*other:512*other+512], plainFsinfo(f)) {
		b.mended++
		if b.step(impl.DiskOp{Kind: impl.DiskWrite, A: other, Data: plainFsinfo(f)}) {
			return impl.ErrPower
		}
		b.step(impl.DiskOp{Kind: impl.DiskBarrier})
	}
	b.log = impl.LogDrop(b.log, f.Ops)
	list := impl.LogScan(b.log)
	if f.Log == 0 || len(list) > 0 && list[0].Number != f.Ops+1 {
		b.log, list = nil, nil
	}
	for _, e := range list {
		before := b.ops
		code := impl.ErrKind
		if plainLogged(e.Op.Kind) {
			code = b.do(e.Op, true).Code
		}
		if code == impl.ErrPower {
			return code
		}
		if code != impl.OK || b.ops == before {
			b.log = plainBelow(b.log, e.Number)
			break
		}
		b.replayed++
	}
	if b.ops > b.record.Ops {
		return b.point(impl.Act{})
	}
	return impl.OK
}

func plainLogged(kind int) bool { return kind >= 1 && kind <= 11 || kind >= 18 && kind <= 20 }

func plainBelow(log []byte, number int) []byte {
	left := []byte{}
	for _, e := range plainScan(log) {
		if e.Number < number {
			left = append(left, plainRecord(e.Number, e.Op)...)
		}
	}
	return left
}

// answer is the answer to one operation, in whatever state the power is.
func (b *plainBox) answer(op impl.Op) impl.Ans {
	switch {
	case op.Kind == impl.OpCrash:
		b.device.do(impl.DiskOp{Kind: impl.DiskCrash, Data: op.Data})
		if op.A > 0 {
			b.device.do(impl.DiskOp{Kind: impl.DiskFuse, A: op.A - 1})
		}
		return impl.Ans{Code: b.mount()}
	case b.off && op.Kind == impl.OpFuse:
		return impl.Ans{}
	case b.off:
		return impl.Ans{Code: impl.ErrPower}
	}
	return b.do(op, false)
}

// do is an operation while the power is on; again says that it comes from the log.
func (b *plainBox) do(op impl.Op, again bool) impl.Ans {
	ans := b.asked(op, again)
	if ans.Code != impl.OK {
		return impl.Ans{Code: ans.Code}
	}
	return ans
}

func (b *plainBox) asked(op impl.Op, again bool) impl.Ans {
	if op.Kind < 1 || op.Kind > 27 {
		return impl.Ans{Code: impl.ErrKind}
	}
	if op.Kind == impl.OpFuse {
		b.device.do(impl.DiskOp{Kind: impl.DiskFuse, A: op.A})
		return impl.Ans{}
	}
	if op.Uid < 0 || op.Uid > 65535 || op.Gid < 0 || op.Gid > 65535 {
		return impl.Ans{Code: impl.ErrInval}
	}
	if slices.Contains([]int{18, 19, 20, 22, 24, 25}, op.Kind) && op.Uid != 0 {
		return impl.Ans{Code: impl.ErrPerm}
	}
	switch {
	case op.Kind <= 11:
		return b.change(op, again)
	case op.Kind <= 17:
		return b.look(op)
	case op.Kind <= 20:
		return b.snap(op, again)
	case op.Kind == impl.OpSnapList:
		return b.listed()
	case op.Kind == impl.OpCp:
		if b.ops == b.record.Ops {
			return impl.Ans{}
		}
		return impl.Ans{Code: b.point(impl.Act{})}
	case op.Kind == impl.OpStatfs:
		return b.statfs()
	case op.Kind == impl.OpSend:
		return b.send(op)
	}
	return b.receive(op)
}

func plainSnapshotPath(path string) ([]string, bool) {
	names, code := plainSplit(path)
	if code != impl.OK || len(names) == 0 || names[0] != ".snapshot" {
		return nil, false
	}
	return names[1:], true
}

// fieldsOf are the fields that the tables of chapters 9 and 13 name for a kind: Path, A,
// B, Path2 and Data. (All kinds have a user.)
func fieldsOf(kind int) string {
	return map[int]string{1: "PA", 2: "PA", 3: "P2", 4: "P2", 5: "P", 6: "P", 7: "P2", 8: "PAD", 9: "PA", 10: "PA", 11: "PAB",
		12: "PAB", 13: "P", 14: "P", 15: "P", 16: "P", 17: "PAB", 18: "P", 19: "P", 20: "P", 24: "P2", 25: "D", 26: "A", 27: "AD"}[kind]
}

// otherFields is an operation with those of another in all fields that its kind doesn't
// name.
func otherFields(op, other impl.Op) impl.Op {
	named := func(field string) bool { return strings.Contains(fieldsOf(op.Kind), field) }
	if !named("P") {
		op.Path = other.Path
	}
	if !named("A") {
		op.A = other.A
	}
	if !named("B") {
		op.B = other.B
	}
	if !named("2") {
		op.Path2 = other.Path2
	}
	if !named("D") {
		op.Data = other.Data
	}
	return op
}

// bare is an operation with just the fields that its kind names.
func bare(op impl.Op) impl.Op { return otherFields(op, impl.Op{}) }

// stepOne is step 1 of an operation that is put into the log.
func (b *plainBox) stepOne(op impl.Op, again bool) int {
	if again || b.record.Log == 0 || len(b.log)+len(plainRecord(b.ops+1, bare(op))) <= b.record.Log {
		return impl.OK
	}
	return b.point(impl.Act{})
}

func (b *plainBox) stepThree(op impl.Op, next impl.State, again bool) {
	if b.record.Log != 0 && !again {
		b.log = append(b.log, plainRecord(b.ops+1, bare(op))...)
	}
	b.s = next
	b.ops++
}

func (b *plainBox) change(op impl.Op, again bool) impl.Ans {
	_, one := plainSnapshotPath(op.Path)
	_, other := plainSnapshotPath(op.Path2)
	if one || other && (op.Kind == impl.OpLink || op.Kind == impl.OpRename) {
		return impl.Ans{Code: impl.ErrRofs}
	}
	next, ans := impl.ApplyOp(b.s, op)
	if ans.Code != impl.OK || next.Clock == b.s.Clock {
		return ans
	}
	if b.ops == impl.MaxClock {
		return impl.Ans{Code: impl.ErrRange}
	}
	if code := b.stepOne(op, again); code != impl.OK {
		return impl.Ans{Code: code}
	}
	least := 12
	switch op.Kind {
	case impl.OpUnlink, impl.OpRmdir:
		least = 0
	case impl.OpTruncate:
		if number, _ := plainWalk(b.s, op.Uid, op.Gid, op.Path, true); op.A <= len(b.s.Nodes[number].Data) {
			least = 0
		}
	}
	if room, code := impl.Room(b.image(), next); code != impl.OK {
		return impl.Ans{Code: code}
	} else if room < least {
		return impl.Ans{Code: impl.ErrNoSpace}
	}
	b.stepThree(op, next, again)
	if !again && b.record.Every != 0 && b.ops-b.record.Ops >= b.record.Every {
		ans.Code = b.point(impl.Act{})
	}
	return ans
}

func (b *plainBox) look(op impl.Op) impl.Ans {
	names, inside := plainSnapshotPath(op.Path)
	if !inside {
		_, ans := impl.ApplyOp(b.s, op)
		return ans
	}
	if len(names) > 0 {
		s, code := impl.LoadSnap(b.image(), names[0])
		if code != impl.OK {
			return impl.Ans{Code: code}
		}
		op.Path = ""
		for _, name := range names[1:] {
			op.Path += "/" + name
		}
		if op.Path == "" {
			op.Path = "/"
		}
		_, ans := impl.ApplyOp(s, op)
		return ans
	}
	switch op.Kind {
	case impl.OpStat, impl.OpLstat:
		return impl.Ans{Stat: impl.Stat{Kind: 2, Links: 2, Mode: 365}}
	case impl.OpList:
		return b.listed()
	case impl.OpReadlink:
		return impl.Ans{Code: impl.ErrInval}
	}
	return impl.Ans{Code: impl.ErrIsDir}
}

func (b *plainBox) listed() impl.Ans {
	list, code := impl.Snapshots(b.image())
	ans := impl.Ans{Code: code, N: len(list)}
	for _, snap := range list {
		ans.Names = append(ans.Names, impl.Dirent{Name: snap.Name, Ino: snap.Plane, Kind: 2})
	}
	slices.SortFunc(ans.Names, func(a, b impl.Dirent) int { return strings.Compare(a.Name, b.Name) })
	return ans
}

func (b *plainBox) snap(op impl.Op, again bool) impl.Ans {
	act := impl.Act{Kind: op.Kind - 17, Name: op.Path}
	list, code := impl.Snapshots(b.image())
	if code != impl.OK {
		return impl.Ans{Code: code}
	}
	snap, code := plainAct(b.record, list, act)
	if code != impl.OK {
		return impl.Ans{Code: code}
	}
	next := copyOf(b.s)
	if act.Kind == impl.ActRestore {
		if next, code = impl.LoadSnap(b.image(), op.Path); code != impl.OK {
			return impl.Ans{Code: code}
		}
	}
	next.Clock = b.s.Clock + 1
	if b.s.Clock == impl.MaxClock || b.ops == impl.MaxClock {
		return impl.Ans{Code: impl.ErrRange}
	}
	if code := b.stepOne(op, again); code != impl.OK {
		return impl.Ans{Code: code}
	}
	if act.Kind == impl.ActCreate {
		if room, code := impl.Room(b.image(), b.s); code != impl.OK {
			return impl.Ans{Code: code}
		} else if room < 13 {
			return impl.Ans{Code: impl.ErrNoSpace}
		}
	}
	s, ops, log := b.s, b.ops, bytes.Clone(b.log)
	b.stepThree(op, next, again)
	code = b.point(act)
	if code != impl.OK && code != impl.ErrPower {
		b.s, b.ops, b.log = s, ops, log
	}
	return impl.Ans{Code: code, N: snap.Plane}
}

func (b *plainBox) statfs() impl.Ans {
	words, mapped := impl.MapWords(b.image())
	list, listed := impl.Snapshots(b.image())
	fresh, counted := impl.FreshCount(b.image(), b.record.Ino, b.s)
	for _, code := range []int{mapped, listed, counted} {
		if code != impl.OK {
			return impl.Ans{Code: code}
		}
	}
	u := impl.Usage{Blocks: len(words), Fresh: fresh, Reserve: impl.MapReserve(len(words)), Snaps: len(list), Ops: b.ops, Clock: b.s.Clock, Gen: b.record.Gen}
	for _, w := range words {
		if w == 0 {
			u.Free++
		}
	}
	for _, n := range b.s.Nodes {
		u.Bytes += len(n.Data)
		if !zeroNode(n) {
			u.Inodes++
		}
	}
	return impl.Ans{Usage: u}
}

func (b *plainBox) send(op impl.Op) impl.Ans {
	from, to, code := impl.NewState(), b.s, impl.OK
	if op.Path != "" {
		if from, code = impl.LoadSnap(b.image(), op.Path); code != impl.OK {
			return impl.Ans{Code: code}
		}
	}
	if op.Path2 != "" {
		if to, code = impl.LoadSnap(b.image(), op.Path2); code != impl.OK {
			return impl.Ans{Code: code}
		}
	}
	stream, code := plainDiff(from, to)
	if code == impl.OK && len(stream) > 1048576 {
		code = impl.ErrLarge
	}
	return impl.Ans{Code: code, N: len(stream), Data: stream}
}

func (b *plainBox) receive(op impl.Op) impl.Ans {
	if len(op.Data) > 1048576 {
		return impl.Ans{Code: impl.ErrLarge}
	}
	next, code := plainPatch(b.s, op.Data)
	if code != impl.OK {
		return impl.Ans{Code: code}
	}
	greater := max(b.s.Clock, next.Clock)
	if greater == impl.MaxClock || b.ops == impl.MaxClock {
		return impl.Ans{Code: impl.ErrRange}
	}
	next.Clock = greater + 1
	if room, code := impl.Room(b.image(), next); code != impl.OK {
		return impl.Ans{Code: code}
	} else if room < 12 {
		return impl.Ans{Code: impl.ErrNoSpace}
	}
	s, ops := b.s, b.ops
	b.s, b.ops = next, b.ops+1
	code = b.point(impl.Act{})
	if code != impl.OK && code != impl.ErrPower {
		b.s, b.ops = s, ops
	}
	return impl.Ans{Code: code}
}

func plainRightMachine(m impl.Machine) bool {
	n := len(m.Disk) / 512
	return len(m.Disk)%512 == 0 && n >= 64 && n <= 2048 && len(m.Log) <= 65536
}

// plainRun is Run by the letter; it tells the machine too, as it was at the end.
func plainRun(m impl.Machine, ops []impl.Op) (impl.Outcome, *plainBox) {
	if !plainRightMachine(m) {
		return impl.Outcome{Code: impl.ErrInval}, nil
	}
	if len(ops) > 2000 {
		return impl.Outcome{Code: impl.ErrLarge}, nil
	}
	b := newPlainBox(m)
	if code := b.mount(); code != impl.OK {
		return impl.Outcome{Code: code, Machine: b.left()}, b
	}
	answers := []impl.Ans{}
	for _, op := range ops {
		answers = append(answers, b.answer(op))
	}
	return impl.Outcome{Answers: answers, Machine: b.left()}, b
}

func plainRecover(m impl.Machine) (impl.Machine, int) {
	if !plainRightMachine(m) {
		return impl.Machine{}, impl.ErrInval
	}
	b := newPlainBox(m)
	code := b.mount()
	return b.left(), code
}

func sameMachine(a, b impl.Machine) bool {
	return bytes.Equal(a.Disk, b.Disk) && bytes.Equal(a.Log, b.Log)
}

// tellMachine says where two machines differ.
func tellMachine(a, b impl.Machine) string {
	text := fmt.Sprintf("disks of %d and %d bytes, logs of %d and %d", len(a.Disk), len(b.Disk), len(a.Log), len(b.Log))
	for k := 0; k < min(len(a.Disk), len(b.Disk)); k += 512 {
		if !bytes.Equal(a.Disk[k:min(k+512, len(a.Disk))], b.Disk[k:min(k+512, len(b.Disk))]) {
			text += fmt.Sprint(", block ", k/512)
		}
	}
	return text
}

// lentMachine is a machine whose lists have memory behind their ends.
func lentMachine(m impl.Machine) impl.Machine {
	return impl.Machine{Disk: withSpare(m.Disk), Log: withSpare(m.Log)}
}

func lentIntact(handed, m impl.Machine) bool {
	return sameMachine(handed, m) && spareIntact(handed.Disk) && spareIntact(handed.Log)
}

// runs asks for the outcome of the plain rule, and that nothing that was handed in is
// changed or shared; it tells the outcome.
func runs(t *testing.T, name string, m impl.Machine, ops []impl.Op) impl.Outcome {
	t.Helper()
	handed, list := lentMachine(m), make([]impl.Op, 0, len(ops)+1)
	for _, op := range ops {
		list = append(list, lent(op))
	}
	got := impl.Run(handed, list)
	want, _ := plainRun(m, ops)
	if got.Code != want.Code || len(got.Answers) != len(want.Answers) {
		t.Fatalf("%s: code %d, %d answers, want code %d, %d answers", name, got.Code, len(got.Answers), want.Code, len(want.Answers))
	}
	for k := range want.Answers {
		if !sameAns(got.Answers[k], want.Answers[k]) {
			t.Errorf("%s, operation %d (%s): %s, want %s", name, k, tellOp(ops[k]), tellAns(got.Answers[k]), tellAns(want.Answers[k]))
		}
	}
	if !sameMachine(got.Machine, want.Machine) {
		t.Errorf("%s: another machine is left: %s", name, tellMachine(got.Machine, want.Machine))
	}
	lists := [][]byte{got.Machine.Disk[:cap(got.Machine.Disk)], got.Machine.Log[:cap(got.Machine.Log)]}
	for _, ans := range got.Answers {
		lists = append(lists, ans.Data[:cap(ans.Data)])
		clear(ans.Names[:cap(ans.Names)])
	}
	if sharing(lists) {
		t.Errorf("%s: answers share their memory", name)
	}
	for k, op := range list {
		if !sameOp(op, ops[k]) || !spareIntact(op.Data) {
			t.Errorf("%s: operation %d has been changed, or an answer shares its memory", name, k)
		}
	}
	if !lentIntact(handed, m) {
		t.Errorf("%s: the machine has been changed, or an answer shares its memory", name)
	}
	return want
}

// recovers asks Recover for what the plain rule leaves; it tells that and the code.
func recovers(t *testing.T, name string, m impl.Machine) (impl.Machine, int) {
	t.Helper()
	handed := lentMachine(m)
	got, code := impl.Recover(handed)
	want, wantCode := plainRecover(m)
	if code != wantCode || !sameMachine(got, want) {
		t.Errorf("%s: recovers with code %d, want %d: %s", name, code, wantCode, tellMachine(got, want))
	}
	if sharing([][]byte{got.Disk[:cap(got.Disk)], got.Log[:cap(got.Log)]}) {
		t.Errorf("%s: an answer shares its memory", name)
	}
	if !lentIntact(handed, m) {
		t.Errorf("%s: the machine has been changed, or an answer shares its memory", name)
	}
	return want, wantCode
}

// codesAre asks for the codes of a run too, as many as are told.
func codesAre(t *testing.T, name string, m impl.Machine, ops []impl.Op, codes ...int) impl.Outcome {
	t.Helper()
	out := runs(t, name, m, ops)
	if out.Code != impl.OK {
		t.Fatalf("%s: code %d", name, out.Code)
	}
	for k, code := range codes {
		if out.Answers[k].Code != code {
			t.Errorf("%s, operation %d (%s): the rule of the test says %d, want %d", name, k, tellOp(ops[k]), out.Answers[k].Code, code)
		}
	}
	return out
}

// made is a new machine.
func made(t *testing.T, blocks, every, log int) impl.Machine {
	t.Helper()
	m, code := impl.Mkfs(blocks, every, log)
	if code != impl.OK || !bytes.Equal(m.Disk, plainFormat(blocks, every, log)) || len(m.Log) != 0 {
		t.Fatalf("Mkfs(%d, %d, %d): code %d, a disk of %d bytes, a log of %d", blocks, every, log, code, len(m.Disk), len(m.Log))
	}
	return m
}
