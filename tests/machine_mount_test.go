package tests

import (
	"bytes"
	"fmt"
	"math"
	"slices"
	"strings"
	"testing"

	"loop.example/s02533/impl"
)

// changedDisk is a machine with another disk.
func changedDisk(m impl.Machine, change func(disk []byte)) impl.Machine {
	m.Disk = bytes.Clone(m.Disk)
	change(m.Disk)
	return m
}

// changedRecord is a machine with both copies of its record changed.
func changedRecord(m impl.Machine, change func(f *impl.Fsinfo)) impl.Machine {
	m.Disk = withRecord(m.Disk, change)
	return m
}

// withLog is a machine whose log has these operations, their numbers rising from one on.
func withLog(m impl.Machine, from int, ops ...impl.Op) impl.Machine {
	m.Log = nil
	for k, op := range ops {
		m.Log = append(m.Log, plainRecord(from+k, op)...)
	}
	return m
}

// What each of the four functions refuses isn't mounted, and nothing of it is changed:
// neither the log nor a copy that is torn.
func TestMountingsThatAreRefused(t *testing.T) {
	spoilt := map[string]func(m impl.Machine, f impl.Fsinfo) impl.Machine{
		"no record": func(m impl.Machine, f impl.Fsinfo) impl.Machine {
			return changedDisk(m, func(disk []byte) { disk[9]++; disk[512+9]++ })
		},
		"records of other volumes": func(m impl.Machine, f impl.Fsinfo) impl.Machine {
			return changedDisk(m, func(disk []byte) { putRecords(disk, rightInfo(), rightInfo()) })
		},
		"a map that isn't right": func(m impl.Machine, f impl.Fsinfo) impl.Machine {
			return changedDisk(m, func(disk []byte) { putWord(disk, f.Map.Direct[0], 1, 3) })
		},
		"a map that can't be read": func(m impl.Machine, f impl.Fsinfo) impl.Machine {
			return changedDisk(m, func(disk []byte) { putWord(disk, f.Map.Single, 0, f.Blocks) })
		},
		"no snapshot": func(m impl.Machine, f impl.Fsinfo) impl.Machine {
			return changedRecord(m, func(f *impl.Fsinfo) { f.Snaps[30] = f.Blocks - 1 })
		},
		"another plane's snapshot": func(m impl.Machine, f impl.Fsinfo) impl.Machine {
			return changedRecord(m, func(f *impl.Fsinfo) { f.Snaps[1] = f.Snaps[0] })
		},
		"no table": func(m impl.Machine, f impl.Fsinfo) impl.Machine {
			return changedDisk(m, func(disk []byte) { disk[512*f.Ino.Direct[0]+1] = 1 })
		},
		"a directory that isn't one": func(m impl.Machine, f impl.Fsinfo) impl.Machine {
			return changedDisk(m, func(disk []byte) {
				list, _ := plainInodes(disk, f.Ino)
				disk[512*list[1].Root.Direct[0]] = 99
			})
		},
		"a Clock that is too little": func(m impl.Machine, f impl.Fsinfo) impl.Machine {
			return changedRecord(m, func(f *impl.Fsinfo) { f.Clock = 1 })
		},
	}
	ops := []impl.Op{on(impl.OpCreate, "/a", 420), writing("/a", 0, "hi"), {Kind: impl.OpSnapCreate, Path: "s"}}
	m := codesAre(t, "a great one", made(t, 2048, 0, 8192), ops, 0, 0, 0).Machine
	m = withLog(m, 4, on(impl.OpCreate, "/b"))
	f, _, _ := impl.ChooseFsinfo(m.Disk)
	for name, spoil := range spoilt {
		for _, torn := range []bool{false, true} {
			bad := spoil(m, f)
			if torn {
				bad = changedDisk(bad, func(disk []byte) { disk[512+100]++ })
			}
			out := runs(t, name, bad, []impl.Op{statfs, crashOf(0)})
			if out.Code != impl.ErrCorrupt || len(out.Answers) != 0 || !sameMachine(out.Machine, bad) {
				t.Errorf("%s: code %d, %d answers, %s", name, out.Code, len(out.Answers), tellMachine(out.Machine, bad))
			}
			if left, code := recovers(t, name, bad); code != impl.ErrCorrupt || !sameMachine(left, bad) {
				t.Errorf("%s: recovers with code %d", name, code)
			}
		}
	}
	if _, code := recovers(t, "all right", m); code != impl.OK {
		t.Errorf("all right: code %d", code)
	}
}

// A mounting that is refused in the middle of a run: the power is off until a crash.
func TestMountingsThatAreRefusedInARun(t *testing.T) {
	p := newPlanter()
	p.dir(1, "d")
	p.file(2, "x", "")
	p.file(1, "f", "")
	m := newMason(64)
	m.info.Clock = p.Clock
	m.info.Ino = m.state(p.State)
	inodes, _ := plainInodes(m.image, m.info.Ino)
	// The map has the block of /d as free, so that the next consistency point takes it.
	bad := inodes[2].Root.Direct[0]
	m.words[bad] = 0
	m.info.Cursor = bad
	box := impl.Machine{Disk: m.done()}
	codesAre(t, "a directory is written over", box, []impl.Op{writing("/f", 0, strings.Repeat("junk", 200)), point, statfs, crashOf(0), statfs, fuseOf(3), {Kind: 99}, crashOf(5, 255), point, crashOf(0), fuseOf(0)},
		0, 0, 0, impl.ErrCorrupt, impl.ErrPower, 0, impl.ErrPower, impl.ErrCorrupt, impl.ErrPower, impl.ErrCorrupt, 0)
	// The last Gen: the log can be done again, but there is no consistency point.
	last := changedRecord(made(t, 64, 0, 8192), func(f *impl.Fsinfo) { f.Gen = impl.MaxClock })
	out := codesAre(t, "the last Gen", last, []impl.Op{on(impl.OpCreate, "/a"), point, on(impl.OpStat, "/a"), crashOf(0), on(impl.OpStat, "/a"), fuseOf(1), crashOf(9), point},
		0, impl.ErrRange, 0, impl.ErrRange, impl.ErrPower, 0, impl.ErrRange, impl.ErrPower)
	if len(out.Machine.Log) != 47 || !bytes.Equal(out.Machine.Disk, last.Disk) {
		t.Errorf("the last Gen: a log of %d bytes", len(out.Machine.Log))
	}
	again := runs(t, "the last Gen again", out.Machine, []impl.Op{statfs})
	if again.Code != impl.ErrRange || len(again.Answers) != 0 || !sameMachine(again.Machine, out.Machine) {
		t.Errorf("the last Gen again: code %d, %s", again.Code, tellMachine(again.Machine, out.Machine))
	}
	// What is refused is taken out of the log though no consistency point follows, and the
	// other copy is mended.
	worse := withLog(last, 1, on(impl.OpCreate, "/a"), on(impl.OpCreate, "/a"), on(impl.OpCreate, "/b"))
	worse = changedDisk(worse, func(disk []byte) { disk[0]++ })
	left, code := recovers(t, "refused and the last Gen", worse)
	if code != impl.ErrRange || !sameMachine(left, withLog(last, 1, on(impl.OpCreate, "/a"))) {
		t.Errorf("refused and the last Gen: code %d, a log of %d bytes", code, len(left.Log))
	}
}

// Whichever copy isn't just the chosen record becomes it.
func TestTheOtherCopyIsMended(t *testing.T) {
	begun := wellUsed(t, 0, 8192)
	f, _, _ := impl.ChooseFsinfo(begun.Disk)
	old := f
	old.Gen--
	odd := f
	odd.Every = 77
	other := f
	other.Blocks, other.Gen = 65, f.Gen+9
	for name, block := range map[string][]byte{
		"the same": plainFsinfo(f), "old": plainFsinfo(old), "zeros": make([]byte, 512), "of another size": plainFsinfo(other), "odd": plainFsinfo(odd), "a snapshot": plainSnap(impl.Snap{Plane: 1, Name: "one", Gen: 1, Clock: 1, Root: f.Ino}),
		"torn in front": append(plainFsinfo(old)[:128], plainFsinfo(f)[128:]...), "torn at the end": append(plainFsinfo(f)[:384], plainFsinfo(old)[384:]...),
	} {
		for at := range 2 {
			m := changedDisk(begun, func(disk []byte) { copy(disk[512*at:], block) })
			what := fmt.Sprint(name, " at ", at)
			left, code := recovers(t, what, m)
			chosen := begun.Disk
			if name == "odd" && at == 0 {
				// Of two with the same Gen that of block 0.
				chosen = changedDisk(begun, func(disk []byte) { putRecords(disk, odd, odd) }).Disk
			}
			if code != impl.OK || !bytes.Equal(left.Disk, chosen) {
				t.Errorf("%s: code %d, %s", what, code, tellMachine(left, impl.Machine{Disk: chosen}))
			}
			codesAre(t, what, m, []impl.Op{statfs, on(impl.OpRead, "/l", 0, 99), on(impl.OpCreate, "/new"), crashOf(0), on(impl.OpStat, "/new")}, 0, 0, 0, 0, 0)
		}
	}
	for at := range 2 {
		for _, gone := range [][]byte{make([]byte, 512), plainFsinfo(other)} {
			m := changedDisk(begun, func(disk []byte) { copy(disk[512*at:], gone); disk[512*(1-at)+508]++ })
			if out := runs(t, "both torn", m, nil); out.Code != impl.ErrCorrupt || !sameMachine(out.Machine, m) {
				t.Errorf("both torn: code %d", out.Code)
			}
		}
	}
}

// replays asks how many operations of a log are done again, and what the machine holds
// then.
func replays(t *testing.T, name string, m impl.Machine, s impl.State, ops []impl.Op, many int) impl.Machine {
	t.Helper()
	before, _, _ := impl.ChooseFsinfo(m.Disk)
	_, b := plainRun(m, nil)
	left, code := recovers(t, name, m)
	if code != impl.OK || b.replayed != many {
		t.Errorf("%s: code %d, %d operations are done again, want %d", name, code, b.replayed, many)
		return left
	}
	for _, op := range ops[:many] {
		if op.Kind <= impl.OpChown {
			s = becomes(t, s, op)
		} else {
			s = copyOf(s)
			s.Clock++
		}
	}
	got, code := impl.LoadState(left.Disk)
	after, _, _ := impl.ChooseFsinfo(left.Disk)
	if code != impl.OK || !sameState(got, s) || after.Ops != before.Ops+many || len(left.Log) != 0 {
		t.Errorf("%s: code %d, Clock %d of %d, Ops %d of %d, a log of %d bytes", name, code, got.Clock, s.Clock, after.Ops, before.Ops+many, len(left.Log))
	}
	if many == 0 && !bytes.Equal(left.Disk, m.Disk) {
		t.Errorf("%s: the disk has changed", name)
	}
	return left
}

func TestWhichPartOfTheLogIsDoneAgain(t *testing.T) {
	ops := []impl.Op{on(impl.OpCreate, "/a", 420), writing("/a", 600, "hi"), on(impl.OpMkdir, "/d", 511), by(5, 6, on(impl.OpCreate, "/d/b", 420)), on(impl.OpUnlink, "/a")}
	for _, done := range []int{0, 3, impl.MaxClock - 5} {
		m := changedRecord(made(t, 64, 0, 8192), func(f *impl.Fsinfo) { f.Ops = done })
		s := impl.NewState()
		replays(t, "none", m, s, nil, 0)
		whole := withLog(m, done+1, ops...)
		replays(t, "all", whole, s, ops, 5)
		replays(t, "one number too high", withLog(m, done+2, ops[:4]...), s, ops, 0)
		replays(t, "a great number", withLog(m, impl.MaxClock, ops[0]), s, ops, 0)
		for cut := range len(whole.Log) {
			short := whole
			short.Log = whole.Log[:cut]
			if cut%7 == 0 || cut > len(whole.Log)-3 {
				replays(t, fmt.Sprint("cut at ", cut), short, s, ops, len(plainScan(short.Log)))
			}
			if cut%11 == 0 {
				wrong := whole
				wrong.Log = bytes.Clone(whole.Log)
				wrong.Log[cut] ^= 4
				replays(t, fmt.Sprint("changed at ", cut), wrong, s, ops, len(plainScan(wrong.Log)))
			}
		}
		gap := withLog(m, done+1, ops[:2]...)
		gap.Log = append(gap.Log, withLog(m, done+4, ops[2]).Log...)
		replays(t, "a gap", gap, s, ops, 2)
		twice := withLog(m, done+1, ops[:2]...)
		twice.Log = append(twice.Log, withLog(m, done+2, ops[1:4]...).Log...)
		replays(t, "one twice", twice, s, ops, 2)
		ahead := whole
		ahead.Log = append([]byte{0}, whole.Log...)
		replays(t, "a byte ahead", ahead, s, ops, 0)
		for _, torn := range []string{"x", strings.Repeat("\x00", 16), strings.Repeat("\xff", 99)} {
			behind := whole
			behind.Log = append(bytes.Clone(whole.Log), torn...)
			replays(t, "bytes behind", behind, s, ops, 5)
		}
	}
	// Of a log whose first operations have been done the others are done.
	m := changedRecord(made(t, 64, 0, 8192), func(f *impl.Fsinfo) { f.Ops = 7 })
	for from := 3; from <= 9; from++ {
		junk := slices.Repeat([]impl.Op{on(impl.OpRmdir, "/nobody")}, max(0, 8-from))
		many := 5
		if from > 8 {
			many = 0
		}
		replays(t, fmt.Sprint("from ", from), withLog(m, from, append(junk, ops...)...), impl.NewState(), ops, many)
	}
	replays(t, "all done already", withLog(m, 3, ops...), impl.NewState(), ops, 0)
	replays(t, "done long ago", withLog(m, 1, ops...), impl.NewState(), ops, 0)
	// Without a log there is none, whatever stands there.
	bald := made(t, 64, 1, 0)
	replays(t, "no log", withLog(bald, 1, ops...), impl.NewState(), ops, 0)
	bald.Log = make([]byte, impl.MaxLog)
	replays(t, "no log, many bytes", bald, impl.NewState(), ops, 0)
	// One that is longer than the volume's own log, and no consistency point inside of it.
	m = made(t, 200, 1, 8192)
	many := []impl.Op{on(impl.OpCreate, "/a", 420)}
	for k := range 12 {
		many = append(many, writing("/a", 4096*k, strings.Repeat(string(rune('a'+k)), 4096)))
	}
	if left := replays(t, "a long log", withLog(m, 1, many...), impl.NewState(), many, 13); len(left.Disk) > 0 {
		if f, _, _ := impl.ChooseFsinfo(left.Disk); f.Gen != 2 {
			t.Errorf("a long log: Gen %d", f.Gen)
		}
	}
}

// An operation of the log that is refused, does nothing, or is none of those that stand
// there ends it.
func TestOperationsOfTheLogThatAreRefused(t *testing.T) {
	m := wellUsed(t, 0, 65536)
	begun := stateOf(t, "well used", m)
	f, _, _ := impl.ChooseFsinfo(m.Disk)
	first := []impl.Op{on(impl.OpCreate, "/a", 420), writing("/a", 0, "hi")}
	bad := map[string]impl.Op{
		"is there":              on(impl.OpCreate, "/l", 420),
		"isn't there":           on(impl.OpUnlink, "/b"),
		"a wrong mode":          on(impl.OpMkdir, "/b", 4096),
		"a path that isn't one": on(impl.OpMkdir, "b", 0),
		"not allowed":           by(5, 5, on(impl.OpTruncate, "/a", 0)),
		"a snapshot path":       on(impl.OpTruncate, "/.snapshot/one/d/f", 0),
		"into a snapshot":       two(impl.OpRename, "/a", "/.snapshot/b"),
		"no Data":               writing("/a", 0, ""),
		"onto itself":           two(impl.OpRename, "/a", "/a"),
		"not the superuser":     by(1, 0, impl.Op{Kind: impl.OpSnapCreate, Path: "two"}),
		"a snapshot twice":      {Kind: impl.OpSnapCreate, Path: "one"},
		"no snapshot":           {Kind: impl.OpSnapDelete, Path: "two"},
		"none to be restored":   {Kind: impl.OpSnapRestore, Path: "two"},
		"no name":               {Kind: impl.OpSnapCreate, Path: "/"},
	}
	for kind := range 256 {
		if plainLogged(kind) {
			continue
		}
		// Each would be done, and Receive and Cp would change something.
		op := impl.Op{Kind: kind, Path: "/d/f", B: 1}
		if kind == impl.OpReceive || kind == impl.OpSend {
			op.Path = ""
		}
		bad[fmt.Sprint("kind ", kind)] = op
	}
	// A stream for the state that comes ahead of it, and for the one that is there first.
	later := newKeeper().following(uses()...).following(first...).s
	bad["a stream"] = receiving(streamOf(later, becomes(t, later, on(impl.OpUnlink, "/l"))))
	bad["a stream of nothing"] = receiving(streamOf(later, later))
	bad["a stream for what was"] = receiving(streamOf(begun, becomes(t, begun, on(impl.OpUnlink, "/l"))))
	for name, op := range bad {
		ops := append(slices.Clone(first), op, on(impl.OpCreate, "/c"), on(impl.OpUnlink, "/a"))
		replays(t, name, withLog(m, f.Ops+1, ops...), begun, ops, 2)
		replays(t, name+" first", withLog(m, f.Ops+1, ops[2:]...), begun, ops[2:], 0)
	}
	// What a record has in fields that its kind doesn't name does not matter.
	odd := impl.Op{Kind: impl.OpUnlink, Path: "/a", A: -5, B: math.MinInt, Path2: "/.snapshot", Data: []byte("x"), Gid: 65535}
	replays(t, "other fields", withLog(m, f.Ops+1, first[0], odd, first[0]), begun, []impl.Op{first[0], odd, first[0]}, 3)
}

// The room for what is done again is that of the volume as it is; a log made by hand may
// have more.
func TestRoomOfTheLog(t *testing.T) {
	m := made(t, 64, 0, 65536)
	ops := []impl.Op{on(impl.OpCreate, "/f", 420)}
	for k := range 7 {
		ops = append(ops, writing("/f", 4096*k, strings.Repeat("x", 4096)))
	}
	replays(t, "too much", withLog(m, 1, ops...), impl.NewState(), ops, 6)
	// Unlink, Rmdir and a shorter Truncate may use what the others leave.
	small := []impl.Op{ops[0], ops[1], on(impl.OpMkdir, "/d"), on(impl.OpTruncate, "/f", 4000), on(impl.OpUnlink, "/f"), on(impl.OpRmdir, "/d")}
	replays(t, "enough", withLog(m, 1, small...), impl.NewState(), small, 6)
}

// Snapshots that stand in a log are made, deleted and restored again, each by its own
// consistency point.
func TestSnapshotsOfTheLog(t *testing.T) {
	m := made(t, 64, 3, 8192)
	ops := []impl.Op{on(impl.OpCreate, "/a", 420), {Kind: impl.OpSnapCreate, Path: "one", Gid: 9}, writing("/a", 0, "new"), {Kind: impl.OpSnapCreate, Path: "two"},
		{Kind: impl.OpSnapDelete, Path: "one"}, on(impl.OpCreate, "/b", 420)}
	left := replays(t, "made and deleted", withLog(m, 1, ops...), impl.NewState(), ops, 6)
	if list, code := impl.Snapshots(left.Disk); code != impl.OK || len(list) != 1 || list[0].Name != "two" || list[0].Clock != 5 {
		t.Errorf("made and deleted: %v, code %d", list, code)
	}
	if f, _, _ := impl.ChooseFsinfo(left.Disk); f.Gen != 5 {
		t.Errorf("made and deleted: Gen %d", f.Gen)
	}
	restored := append(slices.Clone(ops[:4]), on(impl.OpUnlink, "/a"), impl.Op{Kind: impl.OpSnapRestore, Path: "one"})
	left, code := recovers(t, "restored", withLog(m, 1, restored...))
	s, _ := impl.LoadState(left.Disk)
	if code != impl.OK || s.Clock != 7 || len(s.Nodes) != 3 || len(s.Nodes[2].Data) != 0 {
		t.Errorf("restored: code %d, Clock %d", code, s.Clock)
	}
	// Ahead of one that is refused the records of those that were done are gone already.
	cut := append(slices.Clone(ops[:2]), on(impl.OpCreate, "/a"), on(impl.OpCreate, "/b"))
	replays(t, "cut behind a snapshot", withLog(m, 1, cut...), impl.NewState(), cut, 2)
}
