package tests

import (
	"bytes"
	"fmt"
	"slices"
	"strings"
	"testing"

	"loop.example/s02533/impl"
)

// taking, dropping and restoring are what may be done to the snapshot of a name.
func taking(name string) impl.Op    { return impl.Op{Kind: impl.OpSnapCreate, Path: name} }
func dropping(name string) impl.Op  { return impl.Op{Kind: impl.OpSnapDelete, Path: name} }
func restoring(name string) impl.Op { return impl.Op{Kind: impl.OpSnapRestore, Path: name} }

var snapshots = impl.Op{Kind: impl.OpSnapList}

func sending(from, to string) impl.Op { return two(impl.OpSend, from, to) }
func receiving(stream []byte) impl.Op { return impl.Op{Kind: impl.OpReceive, Data: stream} }

// keeper is what a machine should hold: a state, and those of its snapshots by name.
type keeper struct {
	s     impl.State
	snaps map[string]impl.State
}

func newKeeper() keeper { return keeper{s: impl.NewState(), snaps: map[string]impl.State{}} }

// behind is what should be held when an operation has been answered with OK.
func (k keeper) behind(op impl.Op) keeper {
	next := keeper{s: k.s, snaps: map[string]impl.State{}}
	for name, s := range k.snaps {
		next.snaps[name] = s
	}
	switch {
	case op.Kind <= impl.OpChown:
		next.s, _ = impl.ApplyOp(k.s, op)
	case op.Kind == impl.OpSnapCreate:
		next.s = withClock(k.s, k.s.Clock+1)
		next.snaps[op.Path] = next.s
	case op.Kind == impl.OpSnapDelete:
		next.s = withClock(k.s, k.s.Clock+1)
		delete(next.snaps, op.Path)
	case op.Kind == impl.OpSnapRestore:
		next.s = withClock(k.snaps[op.Path], k.s.Clock+1)
	case op.Kind == impl.OpReceive:
		next.s = received(k.s, op.Data)
	}
	return next
}

// received is the state behind a stream that another one has received; as it was, if the
// stream isn't for it.
func received(s impl.State, stream []byte) impl.State {
	next, code := plainPatch(s, stream)
	if code != impl.OK {
		return s
	}
	return withClock(next, max(s.Clock, next.Clock)+1)
}

// following is what should be held behind operations that have all been done.
func (k keeper) following(ops ...impl.Op) keeper {
	for _, op := range ops {
		k = k.behind(op)
	}
	return k
}

// told is what a look at a path into a snapshot should be answered, and whether there is
// such a snapshot.
func (k keeper) told(op impl.Op) (impl.Ans, bool) {
	names, _ := plainSnapshotPath(op.Path)
	s, there := k.snaps[names[0]]
	if !there {
		return impl.Ans{Code: impl.ErrNoEnt}, false
	}
	op.Path = "/" + strings.Join(names[1:], "/")
	_, ans := plainApply(s, op)
	return ans, true
}

func withClock(s impl.State, clock int) impl.State {
	s = copyOf(s)
	s.Clock = clock
	return s
}

// wrongIn says what is wrong with a disk that should hold just this; nothing, if all is
// right.
func (k keeper) wrongIn(disk []byte) string {
	if s, code := plainLoadState(disk); code != impl.OK || !sameState(s, k.s) {
		return fmt.Sprintf("another state, code %d, Clock %d, want %d", code, s.Clock, k.s.Clock)
	}
	list, code := plainSnapshots(disk)
	if code != impl.OK || len(list) != len(k.snaps) {
		return fmt.Sprintf("%d snapshots, code %d, want %d", len(list), code, len(k.snaps))
	}
	for name, want := range k.snaps {
		if s, code := plainLoadSnap(disk, name); code != impl.OK || !sameState(s, want) {
			return fmt.Sprintf("another snapshot %q, code %d, Clock %d, want %d", name, code, s.Clock, want.Clock)
		}
	}
	return ""
}

// mountsAs asks that a machine, when it is mounted, holds just this and has a sound map;
// it tells the machine then.
func (k keeper) mountsAs(t *testing.T, name string, m impl.Machine) impl.Machine {
	t.Helper()
	left, code := impl.Recover(m)
	if code != impl.OK {
		t.Fatalf("%s: recovers with code %d", name, code)
	}
	if wrong := k.wrongIn(left.Disk); wrong != "" {
		t.Errorf("%s: %s", name, wrong)
	}
	soundMap(t, name, left)
	return left
}

// album is a machine of some blocks with two snapshots that differ, and a state that is
// another one again; and what it holds.
func album(t *testing.T, blocks, every, log int) (impl.Machine, keeper) {
	t.Helper()
	ops := []impl.Op{on(impl.OpMkdir, "/d", 0o777), on(impl.OpCreate, "/d/f", 0o666), writing("/d/f", 0, "first"), by(5, 6, on(impl.OpCreate, "/d/mine", 0o600)), two(impl.OpSymlink, "/l", "d/f"), taking("one"),
		writing("/d/f", 3, strings.Repeat("second ", 200)), on(impl.OpUnlink, "/l"), two(impl.OpLink, "/d/f", "/hard"), taking("two"), on(impl.OpTruncate, "/hard", 9), on(impl.OpChmod, "/d", 0o700), point}
	out := codesAre(t, "an album", made(t, blocks, every, log), ops, slices.Repeat([]int{0}, len(ops))...)
	k := newKeeper().following(ops...)
	return k.mountsAs(t, "an album", out.Machine), k
}

// refusedWith asks that the last operation of a run is refused with a code, that its
// answer is that alone, and that nothing is changed by it, in memory either.
func refusedWith(t *testing.T, name string, m impl.Machine, code int, ops ...impl.Op) {
	t.Helper()
	last := len(ops) - 1
	look := []impl.Op{statfs, snapshots, on(impl.OpStat, "/"), on(impl.OpList, "/")}
	ahead := impl.Run(m, slices.Concat(ops[:last], look))
	out := codesAre(t, name, m, slices.Concat(ops, look))
	if !sameAns(out.Answers[last], impl.Ans{Code: code}) {
		t.Errorf("%s (%s): %s, want code %d", name, tellOp(ops[last]), tellAns(out.Answers[last]), code)
	}
	if !sameMachine(out.Machine, ahead.Machine) || !slices.EqualFunc(out.Answers[last+1:], ahead.Answers[last:], sameAns) {
		t.Errorf("%s (%s): something has changed: %s, %s", name, tellOp(ops[last]), tellAns(out.Answers[last+1]), tellMachine(out.Machine, ahead.Machine))
	}
}

func TestNamesOfTheMachinesSnapshots(t *testing.T) {
	for _, log := range []int{0, 8192} {
		m, k := album(t, 100, 0, log)
		for _, c := range []struct {
			name string
			code int
		}{
			{"", impl.ErrInval}, {".", impl.ErrInval}, {"..", impl.ErrInval}, {"a/b", impl.ErrInval}, {"/", impl.ErrInval}, {"/one", impl.ErrInval}, {"one/", impl.ErrInval}, {"a\x00", impl.ErrInval}, {"\x00", impl.ErrInval},
			{strings.Repeat("x", 27), impl.ErrNameLong}, {strings.Repeat("/", 27), impl.ErrNameLong}, {strings.Repeat("x", 600), impl.ErrNameLong}, {strings.Repeat("\x00", 70000), impl.ErrNameLong},
			{"one", impl.ErrExist}, {"two", impl.ErrExist},
			{"ONE", impl.OK}, {"on", impl.OK}, {"onee", impl.OK}, {"one ", impl.OK}, {"...", impl.OK}, {".one", impl.OK}, {".snapshot", impl.OK}, {strings.Repeat("x", 26), impl.OK}, {"\xff\xfe\n%", impl.OK}, {"-", impl.OK},
		} {
			name := fmt.Sprintf("%.30q, log %d", c.name, log)
			if c.code != impl.OK {
				refusedWith(t, name, m, c.code, taking(c.name))
			} else {
				out := codesAre(t, name, m, []impl.Op{taking(c.name), on(impl.OpRead, "/.snapshot/"+c.name+"/hard", 0, 99), snapshots}, 0, 0, 0)
				if out.Answers[0].N != 3 || string(out.Answers[1].Data) != "firsecond" || out.Answers[2].N != 3 {
					t.Errorf("%s: %s, %s", name, tellAns(out.Answers[0]), tellAns(out.Answers[1]))
				}
				k.behind(taking(c.name)).mountsAs(t, name, out.Machine)
			}
			for _, op := range []impl.Op{dropping(c.name), restoring(c.name)} {
				if c.code != impl.ErrExist {
					refusedWith(t, name, m, impl.ErrNoEnt, op)
					continue
				}
				out := codesAre(t, name, m, []impl.Op{op}, 0)
				if plane := map[string]int{"one": 1, "two": 2}[c.name]; !sameAns(out.Answers[0], impl.Ans{N: plane}) {
					t.Errorf("%s (%s): %s", name, tellOp(op), tellAns(out.Answers[0]))
				}
				k.behind(op).mountsAs(t, name, out.Machine)
			}
		}
	}
}

// Thirty-one snapshots, each of another state, in the planes from the least on; one more
// finds none, and one that is deleted leaves its plane to the next.
func TestThirtyOneSnapshotsAndOneMore(t *testing.T) {
	for _, log := range []int{0, 8192} {
		m, k := made(t, 200, 0, log), newKeeper()
		name := func(n int) string { return fmt.Sprint("s", n*7%31) }
		ops := []impl.Op{on(impl.OpCreate, "/f", 0o644)}
		for n := range 31 {
			ops = append(ops, writing("/f", 0, fmt.Sprintf("%02d", n)), taking(name(n)))
		}
		out := codesAre(t, "all planes", m, append(slices.Clone(ops), snapshots), slices.Repeat([]int{0}, len(ops)+1)...)
		want := []impl.Dirent{}
		for n := range 31 {
			if ans := out.Answers[2+2*n]; !sameAns(ans, impl.Ans{N: n + 1}) {
				t.Errorf("snapshot %d: %s", n, tellAns(ans))
			}
			want = append(want, impl.Dirent{Name: name(n), Ino: n + 1, Kind: impl.KindDir})
		}
		slices.SortFunc(want, func(a, b impl.Dirent) int { return strings.Compare(a.Name, b.Name) })
		if last := out.Answers[len(ops)]; !sameAns(last, impl.Ans{N: 31, Names: want}) {
			t.Errorf("the list: %v", last.Names)
		}
		k = k.following(ops...)
		m = k.mountsAs(t, "all planes", out.Machine)
		for _, bad := range []struct {
			name string
			code int
		}{{"more", impl.ErrSnaps}, {strings.Repeat("x", 26), impl.ErrSnaps}, {"s0", impl.ErrExist}, {"s30", impl.ErrExist}, {"", impl.ErrInval}, {strings.Repeat("x", 27), impl.ErrNameLong}} {
			refusedWith(t, "one more", m, bad.code, taking(bad.name))
			refusedWith(t, "one more by another", m, impl.ErrPerm, by(1, 0, taking(bad.name)))
		}
		for n := range 31 {
			read := codesAre(t, "each is read", m, []impl.Op{on(impl.OpRead, "/.snapshot/"+name(n)+"/f", 0, 9)}, 0)
			if string(read.Answers[0].Data) != fmt.Sprintf("%02d", n) {
				t.Errorf("snapshot %d: %q", n, read.Answers[0].Data)
			}
		}
		// Planes 5, 31 and 2 become free, and are taken from the least on.
		ops = []impl.Op{dropping(name(4)), dropping(name(30)), dropping(name(1)), taking("a"), taking("b"), taking(name(4)), taking("d"), restoring(name(2)), dropping("b"), taking("e"), taking("f")}
		planes := []int{5, 31, 2, 2, 5, 31, 0, 3, 5, 5, 0}
		out = codesAre(t, "planes anew", m, ops)
		for n, plane := range planes {
			want := impl.Ans{N: plane}
			if plane == 0 {
				want.Code = impl.ErrSnaps
			} else {
				k = k.behind(ops[n])
			}
			if !sameAns(out.Answers[n], want) {
				t.Errorf("planes anew, operation %d (%s): %s", n, tellOp(ops[n]), tellAns(out.Answers[n]))
			}
		}
		k.mountsAs(t, "planes anew", out.Machine)
	}
}

func TestUsersOfSnapshots(t *testing.T) {
	m, k := album(t, 100, 0, 8192)
	for _, op := range []impl.Op{taking("three"), dropping("one"), restoring("one"), taking("one"), taking(""), dropping("nobody"), restoring("nobody")} {
		for _, uid := range []int{1, 5, 65535} {
			refusedWith(t, "another user", m, impl.ErrPerm, by(uid, 0, op))
			refusedWith(t, "another user and group", m, impl.ErrPerm, by(uid, 65535, op))
		}
		for _, user := range [][2]int{{-1, 0}, {0, -1}, {65536, 0}, {0, 65536}, {5, -1}, {1 << 40, 1 << 40}} {
			refusedWith(t, "no user", m, impl.ErrInval, by(user[0], user[1], op))
		}
	}
	for _, op := range []impl.Op{taking("three"), dropping("one"), restoring("one")} {
		for _, gid := range []int{0, 1, 65535} {
			out := codesAre(t, "any group", m, []impl.Op{by(0, gid, op)}, 0)
			k.behind(op).mountsAs(t, "any group", out.Machine)
		}
	}
	// Who the snapshots are is told to anyone.
	for _, uid := range []int{0, 1, 65535} {
		out := codesAre(t, "the list", m, []impl.Op{by(uid, 9, snapshots), by(uid, 9, on(impl.OpList, "/.snapshot"))}, 0, 0)
		want := impl.Ans{N: 2, Names: []impl.Dirent{{Name: "one", Ino: 1, Kind: 2}, {Name: "two", Ino: 2, Kind: 2}}}
		if !sameAns(out.Answers[0], want) || !sameAns(out.Answers[1], want) {
			t.Errorf("the list for %d: %v, %v", uid, out.Answers[0].Names, out.Answers[1].Names)
		}
	}
}

// hollow is a volume with a snapshot "bad" whose table can't be read any more, and one of
// the name "one"; with all, every plane is in use.
func hollow(t *testing.T, all bool) impl.Machine {
	t.Helper()
	ops := []impl.Op{on(impl.OpCreate, "/f", 0o644), taking("bad"), writing("/f", 0, "x"), taking("one"), writing("/f", 0, "y")}
	for n := range 29 {
		if all {
			ops = append(ops, taking(fmt.Sprint("s", n)))
		}
	}
	m := codesAre(t, "hollow", made(t, 130, 0, 8192), append(ops, point)).Machine
	list, _ := plainSnapshots(m.Disk)
	return changedDisk(m, func(disk []byte) { disk[512*list[0].Root.Direct[0]+128+1] = 1 })
}

// leaving is a machine of which only so many free blocks are left, the first ones.
func leaving(m impl.Machine, many int) impl.Machine {
	f, _, _ := plainChoose(m.Disk)
	words, _ := plainMapWords(m.Disk)
	for _, b := range plainFreeAll(words, f.Cursor)[many:] {
		words[b] = 1 << 31
	}
	m.Disk = mapped(m.Disk, f, words)
	return m
}

// strained is a machine whose last numbers are those that stand, and what is to be done on
// it ahead of an operation: the log becomes full, or the power fails.
func strained(m impl.Machine, has standing) (impl.Machine, []impl.Op) {
	chmod := on(impl.OpChmod, "/", 0o700)
	ahead, done := []impl.Op{}, 0
	switch {
	case has["step"]:
		done = 178
		ahead = slices.Repeat([]impl.Op{chmod}, done)
	case has["power"]:
		done = 1
		ahead = []impl.Op{chmod, fuseOf(0), point}
	}
	return changedRecord(m, func(f *impl.Fsinfo) {
		if has["clock"] {
			f.Clock = impl.MaxClock - done
		}
		if has["ops"] {
			f.Ops = impl.MaxClock - done
		}
		if has["step"] || has["gen"] {
			f.Gen = impl.MaxClock
		}
	}), ahead
}

// endsWith asks for the code of the last operation of a run; what is refused changes
// nothing.
func endsWith(t *testing.T, name string, m impl.Machine, code int, ops ...impl.Op) {
	t.Helper()
	if code != impl.OK {
		refusedWith(t, name, m, code, ops...)
		return
	}
	codesAre(t, name, m, ops, slices.Repeat([]int{impl.OK}, len(ops))...)
}

// snapScenes tries an operation on a snapshot with troubles that stand together.
func snapScenes(t *testing.T, kind int) func(what string, has standing, code int) bool {
	some, all := hollow(t, false), hollow(t, true)
	return func(what string, has standing, code int) bool {
		t.Helper()
		if has["name"] && has["exist"] || has["none"] && has["corrupt"] || has["power"] && (has["step"] || has["gen"]) {
			return false
		}
		m, op := some, impl.Op{Kind: kind, Path: "one"}
		if kind == impl.OpSnapCreate {
			op.Path = "new"
		}
		if has["snaps"] {
			m = all
		}
		m, ahead := strained(m, has)
		if has["room"] {
			// What is done ahead has one fresh block, the table's. Its room is just enough.
			m = leaving(m, impl.MapReserve(130)+min(len(ahead), 1)+12)
		}
		for name, path := range map[string]string{"name": strings.Repeat("/", 27), "exist": "one", "none": "nobody", "corrupt": "bad"} {
			if has[name] {
				op.Path = path
			}
		}
		if has["perm"] {
			op.Uid = 5
		}
		if has["user"] {
			op.Gid = 65536
		}
		if has["kind"] {
			op.Kind += 27
		}
		endsWith(t, what, m, code, append(ahead, op)...)
		return true
	}
}

func TestOrderOfFaultsOfSnapshots(t *testing.T) {
	t.Parallel()
	first := []trouble{{"power", impl.ErrPower}, {"kind", impl.ErrKind}, {"user", impl.ErrInval}, {"perm", impl.ErrPerm}}
	counts := []trouble{{"clock", impl.ErrRange}, {"ops", impl.ErrRange}, {"step", impl.ErrRange}}
	gen := trouble{"gen", impl.ErrRange}
	none := trouble{"none", impl.ErrNoEnt}
	eachOrder(t, "create", slices.Concat(first, []trouble{{"name", impl.ErrNameLong}, {"exist", impl.ErrExist}, {"snaps", impl.ErrSnaps}}, counts, []trouble{{"room", impl.ErrNoSpace}, gen}), snapScenes(t, impl.OpSnapCreate))
	eachOrder(t, "delete", slices.Concat(first, []trouble{none}, counts, []trouble{gen}), snapScenes(t, impl.OpSnapDelete))
	eachOrder(t, "restore", slices.Concat(first, []trouble{none, {"corrupt", impl.ErrCorrupt}}, counts, []trouble{gen}), snapScenes(t, impl.OpSnapRestore))
	// A snapshot that can't be read can still be deleted, and too few blocks refuse neither.
	for _, kind := range []int{impl.OpSnapDelete, impl.OpSnapRestore} {
		play := snapScenes(t, kind)
		play("no room", standing{"room": true}, impl.OK)
		play("no room and all planes", standing{"room": true, "snaps": true}, impl.OK)
		if kind == impl.OpSnapDelete {
			play("hollow", standing{"corrupt": true, "room": true}, impl.OK)
		}
	}
}

// The last numbers: the one ahead of them is still there for a snapshot.
func TestTheLastNumbersOfSnapshots(t *testing.T) {
	for _, log := range []int{0, 8192} {
		m, k := album(t, 100, 0, log)
		for _, op := range []impl.Op{taking("three"), dropping("one"), restoring("one")} {
			for _, c := range []struct {
				clock, ops, gen, code int
			}{
				{impl.MaxClock - 1, 50, 50, impl.OK}, {impl.MaxClock, 50, 50, impl.ErrRange},
				{50, impl.MaxClock - 1, 50, impl.OK}, {50, impl.MaxClock, 50, impl.ErrRange},
				{50, 50, impl.MaxClock - 1, impl.OK}, {50, 50, impl.MaxClock, impl.ErrRange},
				{impl.MaxClock - 1, impl.MaxClock - 1, impl.MaxClock - 1, impl.OK}, {impl.MaxClock, impl.MaxClock, impl.MaxClock, impl.ErrRange},
			} {
				name := fmt.Sprintf("Clock %d, Ops %d, Gen %d, log %d", c.clock, c.ops, c.gen, log)
				last := changedRecord(m, func(f *impl.Fsinfo) { f.Clock, f.Ops, f.Gen = c.clock, c.ops, c.gen })
				if c.code != impl.OK {
					refusedWith(t, name, last, c.code, op)
					continue
				}
				out := codesAre(t, name, last, []impl.Op{op, statfs}, 0, 0)
				if u := out.Answers[1].Usage; u.Clock != c.clock+1 || u.Ops != c.ops+1 || u.Gen != c.gen+1 {
					t.Errorf("%s (%s): %v", name, tellOp(op), u)
				}
				held := keeper{s: withClock(k.s, c.clock), snaps: k.snaps}
				held.behind(op).mountsAs(t, name, out.Machine)
			}
		}
	}
}

// A snapshot's own fields: its Clock and its Gen are the new ones, and the state's Clock
// goes on by one with each of the three.
func TestClocksOfSnapshots(t *testing.T) {
	for _, log := range []int{0, 8192} {
		for _, every := range []int{0, 1, 3} {
			ops := []impl.Op{on(impl.OpCreate, "/a", 420), taking("x"), statfs, on(impl.OpUnlink, "/a"), on(impl.OpMkdir, "/d", 493), taking("y"), statfs, restoring("x"), statfs, dropping("x"), statfs, restoring("y"), statfs, taking("x"), statfs}
			out := codesAre(t, "clocks", made(t, 64, every, log), ops, slices.Repeat([]int{0}, len(ops))...)
			for k, want := range map[int][2]int{2: {3, 1}, 6: {6, 2}, 8: {7, 2}, 10: {8, 1}, 12: {9, 1}, 14: {10, 2}} {
				u := out.Answers[k].Usage
				if u.Clock != want[0] || u.Ops != want[0]-1 || u.Snaps != want[1] || u.Fresh != 0 {
					t.Errorf("every %d, operation %d: %v", every, k, u)
				}
			}
			f := infoOf(t, "clocks", out.Machine)
			list, _ := impl.Snapshots(out.Machine.Disk)
			if len(list) != 2 || list[0].Name != "x" || list[0].Clock != 10 || list[0].Gen != f.Gen || list[0].Root != f.Ino || list[1].Name != "y" || list[1].Plane != 2 || list[1].Clock != 6 || list[1].Gen >= f.Gen {
				t.Errorf("every %d: %v", every, list)
			}
			newKeeper().following(ops...).mountsAs(t, "clocks", out.Machine)
		}
	}
}

// Promise 19: the state becomes that of the snapshot with all that nodes have, numbers,
// links, modes, owners and times; the snapshot stays, and so do the others.
func TestRestoringMakesTheStateThatOfTheSnapshot(t *testing.T) {
	for _, log := range []int{0, 8192} {
		m, k := album(t, 100, 0, log)
		begun := infoOf(t, "begun", m)
		changed := []impl.Op{on(impl.OpMkdir, "/other", 0), two(impl.OpRename, "/d/f", "/d/g"), on(impl.OpChown, "/hard", 7, 8), writing("/d/mine", 700, "late")}
		for _, ahead := range [][]impl.Op{nil, changed, append(slices.Clone(changed), point), {on(impl.OpUnlink, "/hard"), on(impl.OpUnlink, "/d/f"), on(impl.OpUnlink, "/d/mine"), on(impl.OpRmdir, "/d")}} {
			for _, ops := range [][]impl.Op{{restoring("one")}, {restoring("two")}, {restoring("one"), restoring("one")}, {restoring("one"), restoring("two")}, {restoring("two"), restoring("one")},
				{restoring("one"), writing("/l", 1, "IRS"), restoring("one")}, {restoring("two"), dropping("two")}, {restoring("one"), dropping("two"), taking("two"), restoring("two")}, {taking("three"), restoring("one"), restoring("three")}} {
				all := append(slices.Clone(ahead), ops...)
				name := fmt.Sprintf("%d operations ahead, %d on snapshots, log %d", len(ahead), len(ops), log)
				out := codesAre(t, name, m, append(slices.Clone(all), statfs), slices.Repeat([]int{0}, len(all)+1)...)
				left := k.following(all...).mountsAs(t, name, out.Machine)
				if !bytes.Equal(left.Disk, out.Machine.Disk) || len(out.Machine.Log) != 0 {
					t.Errorf("%s: mounting finds something to do", name)
				}
				plane := map[string]int{"one": 1, "two": 2, "three": 3}[ops[0].Path]
				if ans := out.Answers[len(ahead)]; !sameAns(ans, impl.Ans{N: plane}) {
					t.Errorf("%s: %s", name, tellAns(ans))
				}
				if u := out.Answers[len(all)].Usage; u.Fresh != 0 || u.Ops <= begun.Ops {
					t.Errorf("%s: %v", name, u)
				}
			}
		}
	}
	// What is restored is written to without the snapshot.
	m, k := album(t, 100, 0, 8192)
	ops := []impl.Op{restoring("one"), writing("/l", 0, "FIRST"), on(impl.OpChmod, "/d/f", 0), on(impl.OpUnlink, "/l"), point}
	out := codesAre(t, "changed then", m, append(ops, on(impl.OpRead, "/.snapshot/one/l", 0, 9), on(impl.OpStat, "/.snapshot/one/d/f"), on(impl.OpRead, "/d/f", 0, 9)), 0, 0, 0, 0, 0, 0, 0, 0)
	if string(out.Answers[5].Data) != "first" || out.Answers[6].Stat.Mode != 0o666 || string(out.Answers[7].Data) != "FIRST" {
		t.Errorf("changed then: %q, %s, %q", out.Answers[5].Data, tellAns(out.Answers[6]), out.Answers[7].Data)
	}
	k.following(ops...).mountsAs(t, "changed then", out.Machine)
}

// Promise 18: making and deleting change neither the state nor another snapshot, but for
// the Clock, whatever is still in memory.
func TestMakingAndDeletingChangeNothingElse(t *testing.T) {
	for _, log := range []int{0, 8192} {
		for _, every := range []int{0, 2} {
			m, k := album(t, 100, every, log)
			for _, ahead := range [][]impl.Op{nil, {on(impl.OpMkdir, "/new", 0o700), writing("/hard", 5000, "far"), on(impl.OpUnlink, "/d/f")}} {
				for _, ops := range [][]impl.Op{{taking("three")}, {dropping("one")}, {dropping("two")}, {dropping("one"), dropping("two")}, {taking("three"), dropping("three")}, {dropping("one"), taking("one")}, {taking("three"), taking("four"), dropping("one"), taking("five")}} {
					all := append(slices.Clone(ahead), ops...)
					held := k.following(all...)
					look := []impl.Op{on(impl.OpList, "/"), on(impl.OpStat, "/hard"), on(impl.OpRead, "/hard", 0, 4096), on(impl.OpList, "/d"), on(impl.OpStat, "/")}
					out := codesAre(t, "nothing else", m, slices.Concat(all, look), slices.Repeat([]int{0}, len(all)+len(look))...)
					for n, op := range look {
						if _, want := impl.ApplyOp(k.following(ahead...).s, op); !sameAns(out.Answers[len(all)+n], want) {
							t.Errorf("nothing else (%s): %s, want %s", tellOp(op), tellAns(out.Answers[len(all)+n]), tellAns(want))
						}
					}
					held.mountsAs(t, "nothing else", out.Machine)
				}
			}
		}
	}
}

// A log that is just full, and one that would have a byte too many: then a consistency
// point comes ahead of the snapshot's own.
func TestSnapshotsWithAFullLog(t *testing.T) {
	just, over := "fives", "sixsix"
	begun := []impl.Op{on(impl.OpCreate, "/f", 420), taking(just), writing("/f", 0, "x"), taking(over), writing("/f", 0, "y"), point}
	m := codesAre(t, "begun", made(t, 64, 0, 8192), begun).Machine
	k := newKeeper().following(begun...)
	f := infoOf(t, "begun", m)
	// 46 bytes each; the record of a name of five bytes has 50.
	chmods := slices.Repeat([]impl.Op{on(impl.OpChmod, "/", 0o700)}, 177)
	for _, c := range []struct {
		name string
		ops  []impl.Op
		gens int
	}{
		{"made, just full", []impl.Op{taking("other")}, 1}, {"made, one over", []impl.Op{taking("others")}, 2}, {"made, much over", []impl.Op{on(impl.OpChmod, "/", 0), taking("o")}, 2},
		{"deleted, just full", []impl.Op{dropping(just)}, 1}, {"deleted, one over", []impl.Op{dropping(over)}, 2},
		{"restored, just full", []impl.Op{restoring(just)}, 1}, {"restored, one over", []impl.Op{restoring(over)}, 2},
	} {
		all := append(slices.Clone(chmods), c.ops...)
		out := codesAre(t, c.name, m, all, slices.Repeat([]int{0}, len(all))...)
		leftAs(t, c.name, out, f.Gen+c.gens, f.Ops+len(all), 0)
		k.following(all...).mountsAs(t, c.name, out.Machine)
	}
	// What is refused makes no consistency point, however full the log is.
	full := append(slices.Clone(chmods), on(impl.OpChmod, "/", 0))
	for _, c := range []struct {
		op   impl.Op
		code int
	}{
		{taking(just), impl.ErrExist}, {taking("/"), impl.ErrInval}, {dropping("nobody"), impl.ErrNoEnt}, {restoring("nobody"), impl.ErrNoEnt}, {by(5, 5, taking("others")), impl.ErrPerm}, {by(0, -1, dropping(over)), impl.ErrInval},
	} {
		refusedWith(t, "full and refused", m, c.code, append(slices.Clone(full), c.op)...)
	}
	// Behind the consistency point of step 1 there is no room, since a snapshot holds the
	// table that was: that point has been made.
	m = codesAre(t, "taken", m, []impl.Op{taking("held")}, 0).Machine
	for free, code := range map[int]int{1 + 12 + 1: impl.ErrNoSpace, 1 + 12 + 2: impl.OK} {
		out := codesAre(t, "full and no room", leaving(m, free), append(slices.Clone(full), taking("others")))
		if last := out.Answers[len(full)]; last.Code != code {
			t.Errorf("full, %d blocks are free: %s", free, tellAns(last))
		}
		if code != impl.OK {
			leftAs(t, "full and no room", out, f.Gen+2, f.Ops+1+len(full), 0)
		}
	}
}
