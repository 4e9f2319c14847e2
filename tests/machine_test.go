package tests

import (
	"bytes"
	"fmt"
	"math"
	"runtime"
	"slices"
	"strings"
	"testing"
	"time"

	"loop.example/s02533/impl"
)

var (
	point  = impl.Op{Kind: impl.OpCp}
	statfs = impl.Op{Kind: impl.OpStatfs}
)

func fuseOf(n int) impl.Op { return impl.Op{Kind: impl.OpFuse, A: n} }

func crashOf(a int, choice ...byte) impl.Op {
	return impl.Op{Kind: impl.OpCrash, A: a, Data: choice}
}

// usageIs asks for the Usage of an answer.
func usageIs(t *testing.T, name string, ans impl.Ans, want impl.Usage) {
	t.Helper()
	if ans.Code != impl.OK || ans.Usage != want || ans.N != 0 {
		t.Errorf("%s: %s, want %v", name, tellAns(ans), want)
	}
}

// stateOf is the state that a machine mounts with.
func stateOf(t *testing.T, name string, m impl.Machine) impl.State {
	t.Helper()
	left, code := impl.Recover(m)
	if code != impl.OK {
		t.Fatalf("%s: recovers with code %d", name, code)
	}
	s, code := impl.LoadState(left.Disk)
	if code != impl.OK {
		t.Fatalf("%s: no state, code %d", name, code)
	}
	return s
}

// applied is the state behind operations that are all done.
func applied(t *testing.T, ops ...impl.Op) impl.State {
	t.Helper()
	s := impl.NewState()
	for _, op := range ops {
		s = becomes(t, s, op)
	}
	return s
}

func TestMachinesThatAreMade(t *testing.T) {
	for _, blocks := range []int{64, 65, 1000, 1537, 2048} {
		for _, every := range []int{0, 1, 1000} {
			for _, log := range []int{0, 8192, 8193, 65536} {
				m := made(t, blocks, every, log)
				out := codesAre(t, "new", m, []impl.Op{statfs, on(impl.OpList, "/")}, 0, 0)
				if u := out.Answers[0].Usage; u.Blocks != blocks || u.Inodes != 1 || u.Gen != 1 || u.Ops != 0 || u.Clock != 1 || u.Bytes != 0 {
					t.Errorf("new: %v", u)
				}
				if !sameMachine(out.Machine, m) {
					t.Errorf("%d blocks: looking changes the machine", blocks)
				}
			}
		}
	}
	for _, c := range [][3]int{
		{63, 0, 0}, {2049, 0, 0}, {0, 0, 0}, {-64, 0, 0}, {math.MaxInt, 0, 0}, {math.MinInt, 0, 0}, {64, -1, 0}, {64, 1001, 0}, {64, math.MaxInt, 0},
		{64, 0, 1}, {64, 0, 8191}, {64, 0, 65537}, {64, 0, -8192}, {64, 0, math.MinInt}, {63, -1, 1}, {64, 1001, 65537},
	} {
		if m, code := impl.Mkfs(c[0], c[1], c[2]); code != impl.ErrRange || len(m.Disk) != 0 || len(m.Log) != 0 {
			t.Errorf("Mkfs of %v: code %d", c, code)
		}
	}
}

// A machine that isn't right, too many operations and a disk that can't be mounted, each
// with what is asked behind it standing too.
func TestMachinesThatAreNotRight(t *testing.T) {
	m := made(t, 64, 0, 8192)
	none, many := make([]byte, 64*512), make([]impl.Op, impl.MaxOps+1)
	sizes := [][]byte{nil, m.Disk[:100], m.Disk[:63*512], m.Disk[:64*512-1], append(bytes.Clone(m.Disk), 0), make([]byte, 2049*512), make([]byte, 2048*512+128)}
	for k, disk := range sizes {
		for _, log := range []int{0, 100, impl.MaxLog, impl.MaxLog + 1} {
			for _, ops := range [][]impl.Op{nil, {point}, many} {
				bad := impl.Machine{Disk: disk, Log: make([]byte, log)}
				name := fmt.Sprint("size ", k, ", a log of ", log)
				if out := runs(t, name, bad, ops); out.Code != impl.ErrInval || len(out.Machine.Disk) != 0 {
					t.Errorf("%s: code %d", name, out.Code)
				}
				if left, code := recovers(t, name, bad); code != impl.ErrInval || len(left.Disk) != 0 {
					t.Errorf("%s: recovers with code %d", name, code)
				}
			}
		}
	}
	for _, c := range []struct {
		name           string
		disk           []byte
		log, ops, code int
	}{
		{"all right", m.Disk, 0, 0, impl.OK},
		{"the longest log", m.Disk, impl.MaxLog, 3, impl.OK},
		{"a log too long", m.Disk, impl.MaxLog + 1, 3, impl.ErrInval},
		{"a log much too long", m.Disk, 200000, 3, impl.ErrInval},
		{"that and too many", m.Disk, impl.MaxLog + 1, impl.MaxOps + 1, impl.ErrInval},
		{"that and no record", none, impl.MaxLog + 1, 1, impl.ErrInval},
		{"the most operations", m.Disk, 9, impl.MaxOps, impl.OK},
		{"one more", m.Disk, 9, impl.MaxOps + 1, impl.ErrLarge},
		{"one more and no record", none, 9, impl.MaxOps + 1, impl.ErrLarge},
		{"no record", none, 9, impl.MaxOps, impl.ErrCorrupt},
		{"no record and no operations", none, 9, 0, impl.ErrCorrupt},
	} {
		machine := impl.Machine{Disk: c.disk, Log: make([]byte, c.log)}
		out := runs(t, c.name, machine, slices.Repeat([]impl.Op{on(impl.OpList, "/")}, c.ops))
		if out.Code != c.code || c.code != impl.OK && len(out.Answers) != 0 {
			t.Errorf("%s: code %d, want %d", c.name, out.Code, c.code)
		}
		if c.code == impl.ErrCorrupt && !sameMachine(out.Machine, machine) {
			t.Errorf("%s: a machine that can't be mounted has changed", c.name)
		}
	}
}

func TestWorkedExampleOfAMachineWithALog(t *testing.T) {
	m := made(t, 64, 0, 8192)
	ops := []impl.Op{on(impl.OpCreate, "/a", 420), writing("/a", 0, "hi")}
	out := codesAre(t, "two operations", m, append(ops, statfs), 0, 0, 0)
	usageIs(t, "two operations", out.Answers[2], impl.Usage{Blocks: 64, Free: 60, Fresh: 3, Reserve: 1, Inodes: 2, Bytes: 514, Ops: 2, Clock: 3, Gen: 1})
	if len(out.Machine.Log) != 47+49 || !bytes.Equal(out.Machine.Disk, m.Disk) {
		t.Errorf("a log of %d bytes, or the device has been touched", len(out.Machine.Log))
	}
	left, code := recovers(t, "two operations", out.Machine)
	f, at, _ := impl.ChooseFsinfo(left.Disk)
	if code != impl.OK || f.Gen != 2 || f.Ops != 2 || at != 0 || len(left.Log) != 0 {
		t.Errorf("code %d, Gen %d, Ops %d, a log of %d bytes", code, f.Gen, f.Ops, len(left.Log))
	}
	if s := stateOf(t, "two operations", out.Machine); !sameState(s, applied(t, ops...)) {
		t.Errorf("another state, Clock %d", s.Clock)
	}
	bald := made(t, 64, 0, 0)
	out = codesAre(t, "without a log", bald, ops, 0, 0)
	if !sameMachine(out.Machine, bald) || !sameState(stateOf(t, "without a log", out.Machine), impl.NewState()) {
		t.Errorf("without a log something is left")
	}
}

// The second worked example, with all that may survive of the last barrier's writes.
func TestWorkedExampleOfTornRecords(t *testing.T) {
	m := made(t, 64, 0, 0)
	for k := range 24 {
		cached := k
		switch {
		case k >= 20:
			cached = 0
		case k >= 16:
			cached = k - 16
		case k >= 12:
			cached = k - 12
		}
		for choice := range 1 << min(cached, 5) {
			bits := []byte{byte(choice), byte(choice * 7)}
			power, stat := impl.ErrPower, impl.ErrNoEnt
			if k >= 20 {
				power = impl.OK
			}
			if k >= 16 {
				stat = impl.OK
			}
			name := fmt.Sprintf("%d sector writes, choice %x", k, bits)
			ops := []impl.Op{on(impl.OpCreate, "/a", 420), fuseOf(k), point, on(impl.OpStat, "/a"), crashOf(0, bits...), on(impl.OpStat, "/a"), on(impl.OpCreate, "/b", 420), point, statfs}
			out := codesAre(t, name, m, ops, 0, 0, power, power, 0, stat, 0, 0, 0)
			if !bytes.Equal(out.Machine.Disk[:512], out.Machine.Disk[512:1024]) {
				t.Errorf("%s: the copies differ", name)
			}
			gen := 2
			if stat == impl.OK {
				gen = 3
			}
			if u := out.Answers[8].Usage; u.Gen != gen || u.Ops != gen-1 || u.Clock != gen {
				t.Errorf("%s: %v", name, u)
			}
		}
	}
}

func TestWorkedExampleOfFilling(t *testing.T) {
	for _, log := range []int{0, 8192} {
		m := made(t, 64, 0, log)
		piece := strings.Repeat("x", 4096)
		ops := []impl.Op{on(impl.OpCreate, "/f", 420)}
		for k := range 5 {
			ops = append(ops, writing("/f", 4096*k, piece))
		}
		full := append(slices.Clone(ops), writing("/f", 5*4096, piece), statfs)
		out := codesAre(t, "filling", m, full, 0, 0, 0, 0, 0, 0)
		if log == 0 {
			// The log's consistency points make fresh blocks old ones.
			if out.Answers[6].Code != impl.ErrNoSpace || out.Answers[7].Usage.Fresh != 43 {
				t.Errorf("filling: %s, %s", tellAns(out.Answers[6]), tellAns(out.Answers[7]))
			}
		}
		bytesLeft := on(impl.OpStat, "/f")
		rest := append(slices.Clone(ops), bytesLeft, impl.Op{Kind: impl.OpSnapCreate, Path: "s"}, on(impl.OpUnlink, "/f"), point, statfs,
			impl.Op{Kind: impl.OpSnapDelete, Path: "s"}, statfs)
		out = codesAre(t, "emptying", m, rest, 0, 0, 0, 0, 0, 0, 0, 0, 0, 0, 0, 0, 0)
		if out.Answers[6].Stat.Size != 5*4096 || out.Answers[7].N != 1 || out.Answers[11].N != 1 {
			t.Errorf("emptying: %s, %s", tellAns(out.Answers[6]), tellAns(out.Answers[7]))
		}
		if one, two := out.Answers[10].Usage, out.Answers[12].Usage; one.Free != 16 || one.Snaps != 1 || two.Free != 60 || two.Snaps != 0 {
			t.Errorf("emptying: %v, then %v", one, two)
		}
	}
}

// The order is: the power, the kind, the user, the superuser, and then the kind's own.
func TestKindsOfTheMachine(t *testing.T) {
	m := made(t, 64, 0, 8192)
	for _, kind := range []int{0, 28, -1, 29, 255, 256, 257, 1 << 32, math.MaxInt, math.MinInt} {
		for _, uid := range []int{0, -1, 65536} {
			op := impl.Op{Kind: kind, Uid: uid, Path: "/.snapshot", A: -1}
			out := codesAre(t, "no such kind", m, []impl.Op{op, fuseOf(0), on(impl.OpCreate, "/a"), point, op, crashOf(0), op},
				impl.ErrKind, 0, 0, impl.ErrPower, impl.ErrPower, 0, impl.ErrKind)
			if len(out.Machine.Log) != 0 {
				t.Errorf("kind %d stands in the log", kind)
			}
		}
	}
}

// wellUsed is a machine with a file, a directory, a link and a snapshot, behind a
// consistency point.
func wellUsed(t *testing.T, every, log int) impl.Machine {
	t.Helper()
	return codesAre(t, "well used", made(t, 64, every, log), uses(), 0, 0, 0, 0, 0, 0, 0, 0, 0).Machine
}

func uses() []impl.Op {
	return []impl.Op{on(impl.OpMkdir, "/d", 0o777), on(impl.OpMkdir, "/d/e", 0o777), on(impl.OpCreate, "/d/f", 0o666), writing("/d/f", 0, "hello"), two(impl.OpSymlink, "/l", "d/f"),
		on(impl.OpChmod, "/", 0o777), {Kind: impl.OpSnapCreate, Path: "one"}, writing("/d/f", 5, " world"), point}
}

// eachKind has an operation of every kind but Fuse and Crash that is done on the machine of
// wellUsed, by the user 0.
func eachKind() []impl.Op {
	begun := newKeeper().following(uses()...)
	stream := streamOf(begun.s, begun.following(on(impl.OpMkdir, "/sent", 0o700), on(impl.OpUnlink, "/l")).s)
	return []impl.Op{
		on(impl.OpMkdir, "/m", 0o755), on(impl.OpCreate, "/c", 0o644), two(impl.OpSymlink, "/s", "/.snapshot/one"), two(impl.OpLink, "/d/f", "/h"), on(impl.OpUnlink, "/l"), on(impl.OpRmdir, "/d/e"),
		two(impl.OpRename, "/d/f", "/g"), writing("/l", 3, "LO W"), on(impl.OpTruncate, "/d/f", 4), on(impl.OpChmod, "/l", 0o600), on(impl.OpChown, "/l", 65535, 7),
		on(impl.OpRead, "/l", 2, 5), on(impl.OpReadlink, "/l"), on(impl.OpStat, "/l"), on(impl.OpLstat, "/l"), on(impl.OpList, "/d"), on(impl.OpSeek, "/l", 0, 1),
		{Kind: impl.OpSnapCreate, Path: "two"}, {Kind: impl.OpSnapDelete, Path: "one"}, {Kind: impl.OpSnapRestore, Path: "one"}, {Kind: impl.OpSnapList}, {Kind: impl.OpCp}, {Kind: impl.OpStatfs},
		sending("one", ""), receiving(stream),
	}
}

func isSuper(kind int) bool { return slices.Contains([]int{18, 19, 20, 22, 24, 25}, kind) }

func TestUsersOfTheMachine(t *testing.T) {
	m := wellUsed(t, 0, 8192)
	for _, op := range eachKind() {
		for _, user := range [][2]int{{-1, 0}, {0, -1}, {65536, 0}, {0, 65536}, {math.MinInt, 0}, {0, math.MaxInt}, {-1, 65536}} {
			bad := by(user[0], user[1], op)
			// A snapshot path and a wrong mode are asked for later.
			worse := bad
			worse.Path, worse.A = "/.snapshot/one", -1
			if out := impl.Run(m, []impl.Op{bad, worse}); out.Code != impl.OK || !sameAns(out.Answers[0], impl.Ans{Code: impl.ErrInval}) || !sameAns(out.Answers[1], impl.Ans{Code: impl.ErrInval}) || !sameMachine(out.Machine, m) {
				t.Errorf("user %v (%s): %v", user, tellOp(op), out.Answers)
			}
		}
		for _, user := range [][2]int{{1, 0}, {65535, 65535}, {0, 65535}, {65535, 0}, {0, 0}} {
			good := by(user[0], user[1], op)
			out := impl.Run(m, []impl.Op{good})
			if isSuper(op.Kind) && user[0] != 0 && (!sameAns(out.Answers[0], impl.Ans{Code: impl.ErrPerm}) || !sameMachine(out.Machine, m)) {
				t.Errorf("user %v (%s): %s", user, tellOp(op), tellAns(out.Answers[0]))
			}
			runs(t, fmt.Sprint("user ", user), m, []impl.Op{good, statfs})
			if user[0] == 0 && out.Answers[0].Code != impl.OK {
				t.Errorf("user %v (%s): %s", user, tellOp(op), tellAns(out.Answers[0]))
			}
		}
	}
	// Fuse and Crash are anyone's.
	for _, id := range []int{-1, 65536, 1, math.MinInt} {
		codesAre(t, "anyone", m, []impl.Op{by(id, id, fuseOf(9)), by(id, id, crashOf(0)), on(impl.OpStat, "/d/f")}, 0, 0, 0)
	}
}

// Each kind is done as it is to be, and whatever stands in fields that it doesn't name
// is neither looked at nor put into the log.
func TestFieldsOfTheMachine(t *testing.T) {
	for _, log := range []int{0, 8192} {
		m := wellUsed(t, 0, log)
		begun := stateOf(t, "well used", m)
		for _, op := range eachKind() {
			junk := otherFields(op, impl.Op{Path: strings.Repeat("/", 900), A: -77, B: math.MinInt, Path2: "/.snapshot/" + strings.Repeat("y", 600), Data: make([]byte, 5000)})
			name := fmt.Sprint("kind ", op.Kind)
			one, two := codesAre(t, name, m, []impl.Op{op, statfs}, 0, 0), codesAre(t, name, m, []impl.Op{junk, statfs}, 0, 0)
			if !sameAns(one.Answers[0], two.Answers[0]) || !sameMachine(one.Machine, two.Machine) {
				t.Errorf("%s: other fields make another answer: %s, %s", name, tellAns(one.Answers[0]), tellAns(two.Answers[0]))
			}
			if op.Kind > impl.OpChown {
				continue
			}
			next, ans := impl.ApplyOp(begun, op)
			if !sameAns(two.Answers[0], ans) {
				t.Errorf("%s: %s, want %s", name, tellAns(two.Answers[0]), tellAns(ans))
			}
			f, _, _ := impl.ChooseFsinfo(m.Disk)
			if log > 0 && (!bytes.Equal(two.Machine.Log, plainRecord(f.Ops+1, op)) || !sameState(stateOf(t, name, two.Machine), next)) {
				t.Errorf("%s: the log isn't that of the operation: %s", name, tellEntries(plainScan(two.Machine.Log)))
			}
		}
	}
}

// What lies under .snapshot is read, never written.
func TestPathsOfSnapshots(t *testing.T) {
	m := wellUsed(t, 0, 8192)
	inside := []string{"/.snapshot", "/.snapshot/", "//.snapshot//one", "/.snapshot/one/d/f", "/.snapshot/none/x", "/.snapshot/.", "/.snapshot/..", "/.snapshot/one/../.."}
	for _, path := range inside {
		for _, op := range eachKind()[:11] {
			// A mode, an offset and an owner that are never right are asked for later.
			first, second := op, op
			first.Path, first.A = path, -1
			second.Path2 = path
			codesAre(t, path, m, []impl.Op{first, by(3, 3, first)}, impl.ErrRofs, impl.ErrRofs)
			if op.Kind == impl.OpLink || op.Kind == impl.OpRename {
				second.Path = "/nobody"
				codesAre(t, path, m, []impl.Op{second, two(op.Kind, path, path)}, impl.ErrRofs, impl.ErrRofs)
			} else {
				codesAre(t, path, m, []impl.Op{second}, 0)
			}
		}
		for kind := impl.OpRead; kind <= impl.OpSeek; kind++ {
			for _, b := range []int{0, 1, 9, -1} {
				runs(t, path, m, []impl.Op{on(kind, path, 0, b), by(5, 5, on(kind, path, 1, b))})
			}
		}
	}
	// These aren't: a path that isn't right, and one whose first name is another.
	for _, path := range []string{"", ".snapshot", "/.snapshot\x00", "/.snapshot/" + strings.Repeat("x", 27), "/.snapshot" + strings.Repeat("/x", 40), "/d/.snapshot", "/./.snapshot/one", "/../.snapshot", "/.snapshots", "/.SNAPSHOT", strings.Repeat("/", 512) + ".snapshot"} {
		for _, op := range eachKind()[:17] {
			op.Path = path
			_, want := impl.ApplyOp(stateOf(t, path, m), op)
			if out := runs(t, path, m, []impl.Op{op}); !sameAns(out.Answers[0], want) {
				t.Errorf("%q, kind %d: %s, want %s", path, op.Kind, tellAns(out.Answers[0]), tellAns(want))
			}
		}
	}
	out := codesAre(t, "reading", m, []impl.Op{on(impl.OpRead, "/.snapshot/one/d/f", 0, 99), on(impl.OpRead, "/.snapshot/one/l", 1, 2), on(impl.OpRead, "/d/f", 0, 99), on(impl.OpReadlink, "/.snapshot/one/l"),
		on(impl.OpStat, "/.snapshot"), on(impl.OpLstat, "/.snapshot/"), on(impl.OpList, "/.snapshot"), on(impl.OpRead, "/.snapshot", 0, 1), on(impl.OpSeek, "/.snapshot", 0, 0), on(impl.OpReadlink, "/.snapshot"),
		on(impl.OpStat, "/.snapshot/one"), on(impl.OpStat, "/.snapshot/two"), on(impl.OpList, "/.snapshot/one/.."), on(impl.OpRead, "/.snapshot/one/none", 0, 1), {Kind: impl.OpSnapList, Uid: 5, Gid: 6}},
		0, 0, 0, 0, 0, 0, 0, impl.ErrIsDir, impl.ErrIsDir, impl.ErrInval, 0, impl.ErrNoEnt, 0, impl.ErrNoEnt, 0)
	names := []impl.Dirent{{Name: "one", Ino: 1, Kind: impl.KindDir}}
	for k, want := range []impl.Ans{{N: 5, Data: []byte("hello")}, {N: 2, Data: []byte("el")}, {N: 11, Data: []byte("hello world")}, {N: 3, Data: []byte("d/f")},
		{Stat: impl.Stat{Kind: 2, Links: 2, Mode: 365}}, {Stat: impl.Stat{Kind: 2, Links: 2, Mode: 365}}, {N: 1, Names: names}} {
		if !sameAns(out.Answers[k], want) {
			t.Errorf("reading %d: %s, want %s", k, tellAns(out.Answers[k]), tellAns(want))
		}
	}
	if !sameAns(out.Answers[14], impl.Ans{N: 1, Names: names}) {
		t.Errorf("the list: %s", tellAns(out.Answers[14]))
	}
}

// Nobody is at work any more when a call has answered.
func TestNoWorkerStays(t *testing.T) {
	m := wellUsed(t, 2, 8192)
	before := runtime.NumGoroutine()
	for k := range 50 {
		impl.Run(m, []impl.Op{on(impl.OpCreate, "/x"), fuseOf(k % 20), point, crashOf(k%9, 3), on(impl.OpCreate, "/y"), crashOf(0), point})
		impl.Run(impl.Machine{Disk: make([]byte, 64*512)}, []impl.Op{point})
		impl.Recover(m)
	}
	for wait := 0; runtime.NumGoroutine() > before && wait < 100; wait++ {
		time.Sleep(10 * time.Millisecond)
	}
	if after := runtime.NumGoroutine(); after > before {
		t.Errorf("%d workers are left of %d", after, before)
	}
}
