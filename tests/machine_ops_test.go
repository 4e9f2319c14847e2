package tests

import (
	"bytes"
	"fmt"
	"math/rand"
	"slices"
	"strings"
	"testing"

	"loop.example/s02533/impl"
)

// infoOf is the record of a machine.
func infoOf(t *testing.T, name string, m impl.Machine) impl.Fsinfo {
	t.Helper()
	f, _, code := impl.ChooseFsinfo(m.Disk)
	if code != impl.OK {
		t.Fatalf("%s: no record, code %d", name, code)
	}
	return f
}

// letters is a text of so many bytes.
func letters(many int) string { return strings.Repeat("w", many) }

// leftAs asks for the Gen and the Ops of the record that a run leaves, and how long its
// log is.
func leftAs(t *testing.T, name string, out impl.Outcome, gen, ops, log int) {
	t.Helper()
	if f := infoOf(t, name, out.Machine); f.Gen != gen || f.Ops != ops || len(out.Machine.Log) != log {
		t.Errorf("%s: Gen %d, Ops %d, a log of %d bytes, want %d, %d, %d", name, f.Gen, f.Ops, len(out.Machine.Log), gen, ops, log)
	}
}

// The log just full, and one byte over.
func TestALogThatIsFull(t *testing.T) {
	for _, size := range []int{8192, 8193, 65536} {
		m := made(t, 300, 0, size)
		ops := []impl.Op{on(impl.OpCreate, "/a", 420)}
		long := 47
		for long+2*4143 <= size {
			ops, long = append(ops, writing("/a", 0, letters(4096))), long+4143
		}
		// Two more: the second one leaves no byte, or has one too many.
		half := (size - long) / 2
		ops, long = append(ops, writing("/a", 9, letters(half-47))), long+half
		rest := size - long - 47
		n := len(ops)
		out := codesAre(t, "just full", m, append(slices.Clone(ops), writing("/a", 5, letters(rest)), statfs))
		leftAs(t, "just full", out, 1, 0, size)
		if out.Answers[n].N != rest || out.Answers[n+1].Usage.Ops != n+1 {
			t.Errorf("just full: %s", tellAns(out.Answers[n]))
		}
		out = codesAre(t, "one over", m, append(slices.Clone(ops), writing("/a", 5, letters(rest+1))))
		leftAs(t, "one over", out, 2, n, 47+rest+1)
		full := append(slices.Clone(ops), writing("/a", 5, letters(rest)))
		// The next one of any kind that changes something finds no place; what is refused or
		// changes nothing needs none.
		out = codesAre(t, "the next", m, append(slices.Clone(full), on(impl.OpUnlink, "/a"), statfs))
		leftAs(t, "the next", out, 2, n+1, 47)
		if u := out.Answers[n+2].Usage; u.Ops != n+2 || u.Gen != 2 {
			t.Errorf("the next: %v", u)
		}
		out = codesAre(t, "a snapshot", m, append(slices.Clone(full), impl.Op{Kind: impl.OpSnapCreate, Path: "s"}))
		leftAs(t, "a snapshot", out, 3, n+2, 0)
		for _, op := range []impl.Op{on(impl.OpCreate, "/a"), on(impl.OpUnlink, "/b"), on(impl.OpMkdir, "/d", -1), on(impl.OpRmdir, "/.snapshot"), writing("/a", 0, ""), two(impl.OpRename, "/a", "/a"),
			on(impl.OpStat, "/a"), {Kind: impl.OpSnapList}, {Kind: impl.OpSnapDelete, Path: "s"}, {Kind: impl.OpSnapCreate, Path: "/"}, {Kind: impl.OpSnapRestore}, {Kind: 28}, by(-1, 0, on(impl.OpUnlink, "/a")), by(5, 5, impl.Op{Kind: impl.OpSnapCreate, Path: "s"})} {
			out = codesAre(t, "nothing is done", m, append(slices.Clone(full), op))
			leftAs(t, "nothing is done", out, 1, 0, size)
		}
		// The power fails in the consistency point: the operation isn't done, whatever it is.
		for _, op := range []impl.Op{on(impl.OpUnlink, "/a"), {Kind: impl.OpSnapCreate, Path: "s"}} {
			out = codesAre(t, "no power", m, append(slices.Clone(full), fuseOf(3), op, crashOf(0), on(impl.OpStat, "/a"), impl.Op{Kind: impl.OpSnapList}))
			if k := n + 2; out.Answers[k].Code != impl.ErrPower || out.Answers[k+1].Code != impl.OK || out.Answers[k+2].Code != impl.OK || out.Answers[k+3].N != 0 {
				t.Errorf("no power: %s, %s", tellAns(out.Answers[k]), tellAns(out.Answers[k+2]))
			}
			leftAs(t, "no power", out, 2, n+1, 0)
		}
	}
}

// The greatest record that there is fits into the smallest log: no operation is greater
// than a new one.
func TestTheGreatestRecord(t *testing.T) {
	m := made(t, 300, 0, 8192)
	path := strings.Repeat("/", impl.MaxPath-1) + "a"
	ops := []impl.Op{on(impl.OpCreate, path, 420), writing(path, 0, letters(4096)), writing(path, 1, letters(4096)), two(impl.OpRename, path, path[:511]+"b"), two(impl.OpLink, path[:511]+"b", path)}
	out := codesAre(t, "long paths", m, ops, 0, 0, 0, 0, 0)
	// 557, 4653 and 4653 bytes: the second write finds the log too full.
	leftAs(t, "long paths", out, 2, 2, 4653+2*(45+2*512))
	if s := stateOf(t, "long paths", out.Machine); !sameState(s, applied(t, ops...)) {
		t.Errorf("long paths: another state, Clock %d", s.Clock)
	}
}

// Every: so many operations are between two consistency points, those that changed
// something.
func TestThePaceOfPoints(t *testing.T) {
	for _, log := range []int{0, 65536} {
		for _, every := range []int{0, 1, 2, 3, 7, 30, 31, 1000} {
			m := made(t, 200, every, log)
			ops := []impl.Op{}
			for k := range 30 {
				ops = append(ops, on(impl.OpCreate, fmt.Sprint("/f", k)), on(impl.OpCreate, "/f0", -1), on(impl.OpStat, "/f0"), writing("/f0", 0, ""))
			}
			out := codesAre(t, "at pace", m, append(ops, statfs))
			points := 0
			if every > 0 {
				points = 30 / every
			}
			u := out.Answers[len(ops)].Usage
			if u.Gen != 1+points || u.Ops != 30 || u.Clock != 31 {
				t.Errorf("every %d: %v", every, u)
			}
			if f := infoOf(t, "at pace", out.Machine); f.Ops != points*every || log == 0 && len(out.Machine.Log) != 0 {
				t.Errorf("every %d: Ops %d, a log of %d bytes", every, f.Ops, len(out.Machine.Log))
			}
			if list := plainScan(out.Machine.Log); log > 0 && len(list) != 30-points*every {
				t.Errorf("every %d: %s", every, tellEntries(list))
			}
		}
	}
	// It is counted from the last consistency point, whoever asked for it.
	m := made(t, 100, 3, 8192)
	chmod := on(impl.OpChmod, "/", 0o755)
	out := codesAre(t, "counted anew", m, []impl.Op{chmod, chmod, point, chmod, chmod, statfs, chmod, statfs, chmod, {Kind: impl.OpSnapCreate, Path: "s"}, chmod, chmod, statfs, chmod, statfs, chmod, crashOf(0), chmod, chmod, statfs, chmod, statfs})
	for k, gen := range map[int]int{5: 2, 7: 3, 12: 4, 14: 5, 19: 6, 21: 7} {
		if u := out.Answers[k].Usage; u.Gen != gen {
			t.Errorf("counted anew, operation %d: %v", k, u)
		}
	}
	// Refused: the code is the answer's, and nothing else, but the operation has been done.
	last := changedRecord(made(t, 64, 1, 8192), func(f *impl.Fsinfo) { f.Gen = impl.MaxClock })
	out = codesAre(t, "the last Gen", last, []impl.Op{on(impl.OpCreate, "/a", 420), writing("/a", 0, "hi"), on(impl.OpRead, "/a", 0, 9), statfs}, impl.ErrRange, impl.ErrRange, 0, 0)
	if string(out.Answers[2].Data) != "hi" || out.Answers[3].Usage.Ops != 2 || out.Answers[0].N != 0 || out.Answers[1].N != 0 || len(out.Machine.Log) != 47+49 {
		t.Errorf("the last Gen: %s, %s", tellAns(out.Answers[0]), tellAns(out.Answers[3]))
	}
	// The power fails: the operation is in flight, and the log has it.
	for _, log := range []int{0, 8192} {
		out = codesAre(t, "no power", made(t, 64, 1, log), []impl.Op{fuseOf(9), on(impl.OpCreate, "/a", 420), crashOf(0), on(impl.OpStat, "/a")}, 0, impl.ErrPower, 0)
		if (out.Answers[3].Code == impl.OK) != (log > 0) || out.Answers[1].N != 0 {
			t.Errorf("no power, log %d: %s", log, tellAns(out.Answers[3]))
		}
	}
}

// changing are operations that would be done on a new volume, one of each kind that may
// change a state.
func changing() []impl.Op {
	return []impl.Op{on(impl.OpMkdir, "/m", 0), on(impl.OpCreate, "/c"), two(impl.OpSymlink, "/s", "x"), on(impl.OpChmod, "/", 0), on(impl.OpChown, "/", 1, 1)}
}

func TestTheLastOperation(t *testing.T) {
	for _, log := range []int{0, 8192} {
		m := changedRecord(wellUsed(t, 0, log), func(f *impl.Fsinfo) { f.Ops = impl.MaxClock })
		snaps := []impl.Op{{Kind: impl.OpSnapCreate, Path: "two"}, {Kind: impl.OpSnapDelete, Path: "one"}, {Kind: impl.OpSnapRestore, Path: "one"}}
		for _, op := range append(eachKind()[:11], snaps...) {
			out := codesAre(t, "none is left", m, []impl.Op{op, point, statfs}, impl.ErrRange, 0, 0)
			if !sameMachine(out.Machine, m) || out.Answers[2].Usage.Ops != impl.MaxClock {
				t.Errorf("none is left (%s): something has changed", tellOp(op))
			}
		}
		// What the operation itself is refused for comes first, and what changes nothing is done.
		codesAre(t, "refused", m, []impl.Op{on(impl.OpCreate, "/l"), on(impl.OpMkdir, "/.snapshot"), on(impl.OpUnlink, "/d"), on(impl.OpChmod, "/", -1), writing("/l", 0, ""), two(impl.OpRename, "/l", "/l"),
			{Kind: impl.OpSnapCreate, Path: "one"}, {Kind: impl.OpSnapCreate, Path: ".."}, {Kind: impl.OpSnapDelete, Path: "two"}, {Kind: impl.OpSnapRestore, Path: "two"}, by(1, 1, snaps[0]), on(impl.OpRead, "/l", 0, 5)},
			impl.ErrExist, impl.ErrRofs, impl.ErrIsDir, impl.ErrInval, 0, 0, impl.ErrExist, impl.ErrInval, impl.ErrNoEnt, impl.ErrNoEnt, impl.ErrPerm, 0)
		// Too few blocks are asked for later.
		tight := impl.Machine{Disk: leaveFree(m.Disk, 40, 3)}
		codesAre(t, "no room either", tight, append(changing(), snaps[0]), slices.Repeat([]int{impl.ErrRange}, 6)...)
		// One is left.
		m = changedRecord(m, func(f *impl.Fsinfo) { f.Ops = impl.MaxClock - 1 })
		out := codesAre(t, "one is left", m, []impl.Op{on(impl.OpCreate, "/a"), on(impl.OpCreate, "/b"), snaps[0], statfs, crashOf(0), on(impl.OpCreate, "/c"), point, statfs}, 0, impl.ErrRange, impl.ErrRange, 0, 0)
		if last := out.Answers[7].Usage; out.Answers[3].Usage.Ops != impl.MaxClock || log > 0 && last.Ops != impl.MaxClock {
			t.Errorf("one is left: %v, then %v", out.Answers[3].Usage, last)
		}
		codesAre(t, "a snapshot is left", m, []impl.Op{snaps[0], on(impl.OpCreate, "/b"), point}, 0, impl.ErrRange, 0)
	}
}

func TestTheLastClockOfAMachine(t *testing.T) {
	for _, log := range []int{0, 8192} {
		m := changedRecord(wellUsed(t, 0, log), func(f *impl.Fsinfo) { f.Clock = impl.MaxClock })
		for _, op := range append(eachKind()[:11], impl.Op{Kind: impl.OpSnapCreate, Path: "two"}, impl.Op{Kind: impl.OpSnapDelete, Path: "one"}, impl.Op{Kind: impl.OpSnapRestore, Path: "one"}) {
			if out := codesAre(t, "the last Clock", m, []impl.Op{op, point, on(impl.OpRead, "/l", 0, 9)}, impl.ErrRange, 0, 0); !sameMachine(out.Machine, m) {
				t.Errorf("the last Clock (%s): something has changed", tellOp(op))
			}
		}
		codesAre(t, "refused", m, []impl.Op{on(impl.OpCreate, "/l"), {Kind: impl.OpSnapCreate, Path: "one"}, {Kind: impl.OpSnapDelete, Path: "two"}, {Kind: impl.OpSnapRestore, Path: "two"}}, impl.ErrExist, impl.ErrExist, impl.ErrNoEnt, impl.ErrNoEnt)
		m = changedRecord(m, func(f *impl.Fsinfo) { f.Clock = impl.MaxClock - 1 })
		out := codesAre(t, "one is left", m, []impl.Op{on(impl.OpCreate, "/a"), on(impl.OpCreate, "/b"), {Kind: impl.OpSnapCreate, Path: "two"}, point, statfs}, 0, impl.ErrRange, impl.ErrRange, 0, 0)
		if u := out.Answers[4].Usage; u.Clock != impl.MaxClock {
			t.Errorf("one is left: %v", u)
		}
	}
}

// The last Gen: every consistency point is refused, and with a snapshot all is as before.
func TestTheLastGen(t *testing.T) {
	for _, log := range []int{0, 8192} {
		m := changedRecord(wellUsed(t, 0, log), func(f *impl.Fsinfo) { f.Gen = impl.MaxClock })
		f := infoOf(t, "the last Gen", m)
		codesAre(t, "nothing to do", m, []impl.Op{point, statfs}, 0, 0)
		for _, op := range []impl.Op{{Kind: impl.OpSnapCreate, Path: "two"}, {Kind: impl.OpSnapDelete, Path: "one"}, {Kind: impl.OpSnapRestore, Path: "one"}} {
			out := codesAre(t, "the last Gen", m, []impl.Op{op, statfs, on(impl.OpRead, "/l", 0, 99), on(impl.OpCreate, "/a"), op, statfs, point, {Kind: impl.OpSnapList}}, impl.ErrRange, 0, 0, 0, impl.ErrRange, 0, impl.ErrRange, 0)
			if u, v := out.Answers[1].Usage, out.Answers[5].Usage; u.Ops != f.Ops || u.Clock != f.Clock || v.Ops != f.Ops+1 || v.Clock != f.Clock+1 || out.Answers[0].N != 0 {
				t.Errorf("the last Gen (%s): %v, then %v", tellOp(op), u, v)
			}
			if string(out.Answers[2].Data) != "hello world" || out.Answers[7].N != 1 || !bytes.Equal(out.Machine.Disk, m.Disk) || log > 0 && len(out.Machine.Log) != 47 {
				t.Errorf("the last Gen (%s): something has changed", tellOp(op))
			}
		}
	}
	// A full log can't be emptied: the operation isn't done.
	m := changedRecord(made(t, 64, 0, 8192), func(f *impl.Fsinfo) { f.Gen = impl.MaxClock })
	chmods := slices.Repeat([]impl.Op{on(impl.OpChmod, "/", 0o700)}, 178)
	out := codesAre(t, "a full log", m, append(chmods, on(impl.OpCreate, "/a"), on(impl.OpStat, "/a"), statfs, impl.Op{Kind: impl.OpSnapCreate, Path: "s"}))
	if out.Answers[178].Code != impl.ErrRange || out.Answers[179].Code != impl.ErrNoEnt || out.Answers[180].Usage.Ops != 178 || out.Answers[181].Code != impl.ErrRange || len(out.Machine.Log) != 178*46 {
		t.Errorf("a full log: %s, a log of %d bytes", tellAns(out.Answers[178]), len(out.Machine.Log))
	}
}

func TestPointsWithNothingToDo(t *testing.T) {
	for _, log := range []int{0, 8192} {
		m := wellUsed(t, 0, log)
		f := infoOf(t, "well used", m)
		for _, ops := range [][]impl.Op{{point}, {point, point, point}, {on(impl.OpStat, "/l"), point}, {on(impl.OpUnlink, "/x"), point}, {writing("/l", 0, ""), point}, {fuseOf(0), point, point}, {crashOf(1), point}, {crashOf(0, 255), point}} {
			if out := codesAre(t, "nothing to do", m, ops); !sameMachine(out.Machine, m) {
				t.Errorf("nothing to do: something has changed")
			}
		}
		// A Chmod to the mode that there was is something.
		out := codesAre(t, "something", m, []impl.Op{on(impl.OpChmod, "/", 0o777), point, point, statfs}, 0, 0, 0, 0)
		leftAs(t, "something", out, f.Gen+1, f.Ops+1, 0)
		codesAre(t, "by others", m, []impl.Op{by(1, 0, point), by(65535, 65535, point), by(0, 65535, point)}, impl.ErrPerm, impl.ErrPerm, 0)
	}
}

func TestStatfsInEachState(t *testing.T) {
	m := made(t, 64, 0, 0)
	snap := func(kind int) impl.Op { return impl.Op{Kind: kind, Path: "s"} }
	ops := []impl.Op{by(5, 6, statfs), on(impl.OpCreate, "/a", 420), statfs, writing("/a", 6144, "x"), statfs, point, statfs, snap(impl.OpSnapCreate), statfs, on(impl.OpUnlink, "/a"), statfs, point, statfs,
		snap(impl.OpSnapRestore), statfs, snap(impl.OpSnapDelete), statfs, on(impl.OpMkdir, "/d"), statfs, crashOf(0), statfs, fuseOf(0), statfs}
	want := map[int]impl.Usage{
		0:  {Free: 60, Fresh: 0, Inodes: 1, Ops: 0, Clock: 1, Gen: 1},
		2:  {Free: 60, Fresh: 2, Inodes: 2, Bytes: 512, Ops: 1, Clock: 2, Gen: 1},
		4:  {Free: 60, Fresh: 4, Inodes: 2, Bytes: 512 + 6145, Ops: 2, Clock: 3, Gen: 1},
		6:  {Free: 57, Fresh: 0, Inodes: 2, Bytes: 512 + 6145, Ops: 2, Clock: 3, Gen: 2},
		8:  {Free: 56, Fresh: 0, Snaps: 1, Inodes: 2, Bytes: 512 + 6145, Ops: 3, Clock: 4, Gen: 3},
		10: {Free: 56, Fresh: 1, Snaps: 1, Inodes: 1, Ops: 4, Clock: 5, Gen: 3},
		12: {Free: 55, Fresh: 0, Snaps: 1, Inodes: 1, Ops: 4, Clock: 5, Gen: 4},
		14: {Free: 56, Fresh: 0, Snaps: 1, Inodes: 2, Bytes: 512 + 6145, Ops: 5, Clock: 6, Gen: 5},
		16: {Free: 57, Fresh: 0, Inodes: 2, Bytes: 512 + 6145, Ops: 6, Clock: 7, Gen: 6},
		18: {Free: 57, Fresh: 2, Inodes: 3, Bytes: 512 + 6145, Ops: 7, Clock: 8, Gen: 6},
		20: {Free: 57, Fresh: 0, Inodes: 2, Bytes: 512 + 6145, Ops: 6, Clock: 7, Gen: 6},
		22: {Free: 57, Fresh: 0, Inodes: 2, Bytes: 512 + 6145, Ops: 6, Clock: 7, Gen: 6},
	}
	out := codesAre(t, "each state", m, ops, slices.Repeat([]int{0}, len(ops))...)
	for k, u := range want {
		u.Blocks, u.Reserve = 64, 1
		usageIs(t, fmt.Sprint("operation ", k), out.Answers[k], u)
	}
	for _, n := range []int{129, 1536, 1537, 2048} {
		out := codesAre(t, "sizes", made(t, n, 0, 0), []impl.Op{statfs}, 0)
		if u := out.Answers[0].Usage; u.Blocks != n || u.Reserve != impl.MapReserve(n) || u.Free != n-3-u.Reserve {
			t.Errorf("%d blocks: %v", n, u)
		}
	}
}

// Which operations need how much room: with so many free blocks, just enough and one too
// few.
func TestRoomOfOperations(t *testing.T) {
	m := wellUsed(t, 0, 0)
	s := stateOf(t, "well used", m)
	begun := infoOf(t, "well used", m)
	for _, c := range []struct {
		op    impl.Op
		least int
	}{
		{on(impl.OpMkdir, "/m", 0), 12}, {on(impl.OpCreate, "/c"), 12}, {two(impl.OpSymlink, "/s", "x"), 12}, {two(impl.OpLink, "/d/f", "/h"), 12}, {two(impl.OpRename, "/d/f", "/g"), 12},
		{writing("/l", 0, "y"), 12}, {writing("/l", 9000, letters(4096)), 12}, {on(impl.OpChmod, "/l", 0), 12}, {on(impl.OpChown, "/l", 9, 9), 12},
		{on(impl.OpTruncate, "/l", 12), 12}, {on(impl.OpTruncate, "/d/f", 262144), 12},
		{on(impl.OpUnlink, "/l"), 0}, {on(impl.OpUnlink, "/d/f"), 0}, {on(impl.OpRmdir, "/d/e"), 0}, {on(impl.OpTruncate, "/l", 11), 0}, {on(impl.OpTruncate, "/d/f", 10), 0}, {on(impl.OpTruncate, "/l", 0), 0},
	} {
		next := becomes(t, s, c.op)
		fresh, _ := impl.FreshCount(m.Disk, begun.Ino, next)
		for more := -2; more <= 2; more++ {
			free := fresh + 1 + c.least + more
			if free < 0 {
				continue
			}
			want := impl.OK
			if more < 0 {
				want = impl.ErrNoSpace
			}
			name := fmt.Sprint(free, " blocks are free")
			tight := impl.Machine{Disk: leaveFree(m.Disk, 30, free)}
			out := codesAre(t, name, tight, []impl.Op{c.op, statfs, on(impl.OpStat, "/"), on(impl.OpList, "/d"), point}, want, 0, 0, 0, 0)
			if want != impl.OK && (!sameMachine(out.Machine, tight) || out.Answers[1].Usage.Clock != s.Clock || out.Answers[1].Usage.Fresh != 0) {
				t.Errorf("%s (%s): something has changed", name, tellOp(c.op))
			}
		}
	}
	// What the operation is refused for itself comes first.
	codesAre(t, "no room at all", impl.Machine{Disk: leaveFree(m.Disk, 30, 0)}, []impl.Op{on(impl.OpCreate, "/l"), on(impl.OpMkdir, "/m", -1), on(impl.OpCreate, "/.snapshot"), by(7, 7, on(impl.OpChmod, "/d", 0)), writing("/l", 0, ""), on(impl.OpUnlink, "/l")},
		impl.ErrExist, impl.ErrInval, impl.ErrRofs, impl.ErrPerm, 0, impl.ErrNoSpace)
	// Snapshots: a new one needs thirteen blocks, the others are never asked.
	for free := 10; free < 20; free++ {
		want := impl.OK
		if free < 13+1 {
			want = impl.ErrNoSpace
		}
		tight := impl.Machine{Disk: leaveFree(m.Disk, 30, free)}
		codesAre(t, fmt.Sprint(free, " blocks are free"), tight, []impl.Op{{Kind: impl.OpSnapCreate, Path: "two"}}, want)
		codesAre(t, fmt.Sprint(free, " blocks are free"), tight, []impl.Op{{Kind: impl.OpSnapRestore, Path: "one"}, {Kind: impl.OpSnapDelete, Path: "one"}}, 0, 0)
	}
}

// Step 1 comes ahead of the room: its consistency point is made though the operation is
// refused then.
func TestAFullLogAndAFullVolume(t *testing.T) {
	ops := []impl.Op{on(impl.OpCreate, "/f", 420)}
	for k := range 5 {
		ops = append(ops, writing("/f", 4096*k, letters(4096)))
	}
	m := codesAre(t, "full", made(t, 64, 0, 8192), append(ops, point)).Machine
	f := infoOf(t, "full", m)
	more := writing("/f", 5*4096, letters(4096))
	codesAre(t, "no room", m, []impl.Op{more, statfs}, impl.ErrNoSpace, 0)
	list := append(slices.Repeat([]impl.Op{on(impl.OpChmod, "/", 0o700)}, 178), more, statfs)
	out := codesAre(t, "both", m, list)
	if out.Answers[178].Code != impl.ErrNoSpace || out.Answers[179].Usage.Gen != f.Gen+1 {
		t.Errorf("both: %s, %s", tellAns(out.Answers[178]), tellAns(out.Answers[179]))
	}
	leftAs(t, "both", out, f.Gen+1, f.Ops+178, 0)
}

// quietRun is a list of operations of the kinds that promise 15 names.
func quietRun(random *rand.Rand, m impl.Machine, many int) []impl.Op {
	_, b := plainRun(m, nil)
	ops := []impl.Op{}
	for range many {
		op := anyMachineOp(random, b.s, false)
		if op.Kind < impl.OpMkdir || op.Kind > impl.OpSeek {
			names := []string{"", "", "s0", "s1", "s2"}
			op = impl.Op{Kind: []int{impl.OpSnapList, impl.OpCp, impl.OpStatfs, impl.OpSend}[random.Intn(4)], Path: names[random.Intn(5)], Path2: names[random.Intn(5)]}
		}
		b.answer(op)
		ops = append(ops, op)
	}
	return ops
}

// Promise 15: the answers are those of ApplyOp on a state alone, but for ErrNoSpace.
func TestAnswersAreThoseOfAStateAlone(t *testing.T) {
	t.Parallel()
	random := rand.New(rand.NewSource(136))
	full, done, streams := 0, 0, 0
	for round := range 30 {
		m, many := anyVolume(t, random), 150
		switch {
		case round == 0:
			m, many = made(t, 64, 1, 8192), impl.MaxOps
		case round%2 == 0:
			// A volume that has a past, with snapshots and crashes in it.
			m = impl.Run(m, someRun(random, m, 60, true)).Machine
		}
		s := stateOf(t, "begun", m)
		ops := quietRun(random, m, many)
		out := impl.Run(m, ops)
		if out.Code != impl.OK || len(out.Answers) != many {
			t.Fatalf("round %d: code %d, %d answers", round, out.Code, len(out.Answers))
		}
		for k, op := range ops {
			_, one := plainSnapshotPath(op.Path)
			_, other := plainSnapshotPath(op.Path2)
			if op.Kind == impl.OpSend && out.Answers[k].Code == impl.OK {
				streams++
			}
			if op.Kind > impl.OpSeek || one || other && (op.Kind == impl.OpLink || op.Kind == impl.OpRename) {
				continue
			}
			next, want := impl.ApplyOp(s, op)
			got := out.Answers[k]
			if want.Code == impl.OK && next.Clock != s.Clock && sameAns(got, impl.Ans{Code: impl.ErrNoSpace}) {
				full++
				continue
			}
			if !sameAns(got, want) {
				t.Fatalf("round %d, operation %d (%s): %s, want %s", round, k, tellOp(op), tellAns(got), tellAns(want))
			}
			if s = next; want.Code == impl.OK {
				done++
			}
		}
		if f := infoOf(t, "at the end", out.Machine); f.Log > 0 && !sameState(stateOf(t, "at the end", out.Machine), s) {
			t.Fatalf("round %d: another state is left", round)
		}
	}
	if full < 20 || done < 1000 || streams < 50 {
		t.Errorf("%d operations found no room, %d were done, %d streams were sent", full, done, streams)
	}
}

// Promise 23: a run in two parts that meet behind a consistency point answers as one.
func TestRunsInTwoParts(t *testing.T) {
	t.Parallel()
	random := rand.New(rand.NewSource(137))
	points := map[int]int{}
	for round := range 25 {
		m := made(t, []int{64, 80, 200, 1600}[random.Intn(4)], []int{0, 0, 1, 2, 5}[random.Intn(5)], []int{8192, 9000, 65536}[random.Intn(3)])
		if round%2 == 0 {
			m = impl.Run(m, someRun(random, m, 40, true)).Machine
		}
		ops := someRun(random, m, 50, false)
		for k := random.Intn(9); k < len(ops); k += 5 + random.Intn(9) {
			ops[k] = point
		}
		whole := impl.Run(m, ops)
		for cut, ans := range whole.Answers {
			kind := ops[cut].Kind
			if ans.Code != impl.OK || kind != impl.OpCp && kind != impl.OpReceive && (kind < impl.OpSnapCreate || kind > impl.OpSnapRestore) {
				continue
			}
			points[kind]++
			first := impl.Run(m, ops[:cut+1])
			second := impl.Run(first.Machine, ops[cut+1:])
			if first.Code != impl.OK || second.Code != impl.OK || len(first.Machine.Log) != 0 {
				t.Fatalf("round %d, cut behind %d: codes %d and %d, a log of %d bytes", round, cut, first.Code, second.Code, len(first.Machine.Log))
			}
			for k, got := range append(first.Answers, second.Answers...) {
				if !sameAns(got, whole.Answers[k]) {
					t.Fatalf("round %d, cut behind %d, operation %d (%s): %s, in one run %s", round, cut, k, tellOp(ops[k]), tellAns(got), tellAns(whole.Answers[k]))
				}
			}
			if !sameMachine(second.Machine, whole.Machine) {
				t.Fatalf("round %d, cut behind %d: another machine is left: %s", round, cut, tellMachine(second.Machine, whole.Machine))
			}
		}
	}
	for kind, least := range map[int]int{impl.OpCp: 80, impl.OpReceive: 10, impl.OpSnapCreate: 10, impl.OpSnapDelete: 3, impl.OpSnapRestore: 3} {
		if points[kind] < least {
			t.Errorf("points %v", points)
		}
	}
}
