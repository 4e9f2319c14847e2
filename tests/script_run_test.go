package tests

import (
	"fmt"
	"math/rand"
	"runtime"
	"strings"
	"testing"
	"time"

	"loop.example/s02533/impl"
)

// workedScript is that of chapter 16, and workedLines are what it tells.
const workedScript = `mkfs 64 0 0
mkdir /d 700
create /d/f 644
write /d/f 0 hi
user 5 5
read /d/f 0 9
user 0 0
read /d/f 1 9
list /
statfs
unlink /d
`

var workedLines = []string{"0 2", "0 3", "0 2", "3 0", "0 1 =i", "0 1 d:2:2", "0 0 usage:64:60:4:1:0:3:1026:3:4:1", "6 0"}

func TestWorkedExampleOfScripts(t *testing.T) {
	scriptTells(t, "worked", workedScript, workedLines...)
	// Cut behind any line it tells what stands ahead of that.
	lines := strings.SplitAfter(workedScript, "\n")
	told := []int{0, 1, 2, 3, 3, 4, 4, 5, 6, 7, 8}
	for n, many := range told {
		text := strings.Join(lines[:n+1], "")
		scriptTells(t, fmt.Sprint(n, " lines behind the first"), text, workedLines[:many]...)
		scriptTells(t, fmt.Sprint(n, " lines, no newline"), strings.TrimSuffix(text, "\n"), workedLines[:many]...)
	}
}

// Lines without words, and those whose first word begins with #, say nothing.
func TestLinesThatAreLeftOut(t *testing.T) {
	long := strings.Repeat("x", impl.MaxLine+1)
	silent := []string{"", " ", "     ", "#", "##", " #", "# mkfs 1 1 1", "#mkfs", "#cp", "   # cp cp", "#\t", "#%", "# %zz \x00\xff", "#" + long, strings.Repeat(" ", impl.MaxLine+1), "# " + long, "#-", strings.Repeat(" ", impl.MaxLine) + "#"}
	for _, line := range silent {
		name := fmt.Sprintf("%.20q", line)
		scriptTells(t, name+" ahead", line+"\n"+workedScript, workedLines...)
		scriptTells(t, name+" behind", workedScript+line, workedLines...)
		scriptTells(t, name+" behind, with a newline", workedScript+line+"\n", workedLines...)
		if between := strings.ReplaceAll(workedScript, "\n", "\n"+line+"\n"); len(between) <= impl.MaxScript {
			scriptTells(t, name+" between", between, workedLines...)
		}
		scriptRefused(t, name+" alone", line, impl.ErrWord)
		scriptRefused(t, name+" twice", line+"\n"+line, impl.ErrWord)
		scriptTells(t, name+" behind mkfs", "mkfs 64 0 0\n"+line)
	}
	all := strings.Join(silent, "\n") + "\n"
	scriptTells(t, "all of them", all+workedScript+all, workedLines...)
	// These aren't left out.
	for _, line := range []string{"\t", "\r", "\x00", "a#", "-#", "%23", "%23 cp", "\t#", "\xff#", "\v", "0", "/#", "\u00a0", "//", ";", "-- x"} {
		scriptRefused(t, fmt.Sprintf("%q ahead", line), line+"\nmkfs 64 0 0", impl.ErrWord)
		scriptRefused(t, fmt.Sprintf("%q between", line), "mkfs 64 0 0\n"+line+"\ncp", impl.ErrWord)
	}
	// A # behind the first word is one like any byte.
	scriptTells(t, "# behind", "mkfs 64 0 0\ncreate /# 644\nwrite /# 0 #\nread /# 0 9\nstat #", "0 2", "0 1", "0 1 =#", "7 0")
	scriptRefused(t, "a comment behind", "mkfs 64 0 0\ncp # a comment", impl.ErrArgs)
	scriptRefused(t, "a comment behind mkfs", "mkfs 64 0 0 #", impl.ErrArgs)
	scriptRefused(t, "a comment behind user", "mkfs 64 0 0\nuser 0 0 #", impl.ErrArgs)
	// Only a newline byte ends a line.
	scriptRefused(t, "carriage returns", "mkfs 64 0 0\r\ncp\r\n", impl.ErrNumber)
	scriptRefused(t, "a carriage return", "mkfs 64 0 0\ncp\r\n", impl.ErrWord)
	scriptRefused(t, "a form feed", "mkfs 64 0 0\fcp", impl.ErrNumber)
}

func TestFirstLinesOfScripts(t *testing.T) {
	for script, code := range map[string]int{
		"": impl.ErrWord, "\n": impl.ErrWord, "\n\n \n": impl.ErrWord, "cp": impl.ErrWord, "cp\nmkfs 64 0 0": impl.ErrWord, "user 0 0\nmkfs 64 0 0": impl.ErrWord, "user\nmkfs 64 0 0": impl.ErrWord, "mkdir / x": impl.ErrWord, "Mkfs 64 0 0": impl.ErrWord, "MKFS 64 0 0": impl.ErrWord, "mkfs\t64 0 0": impl.ErrWord, "mkf 64 0 0": impl.ErrWord, "mkfss 64 0 0": impl.ErrWord, "%6dkfs 64 0 0": impl.ErrWord, "64 0 0": impl.ErrWord, "-": impl.ErrWord, "no" + strings.Repeat(" ", impl.MaxLine): impl.ErrWord, "cp\x00": impl.ErrWord,
		"mkfs": impl.ErrArgs, "mkfs 64": impl.ErrArgs, "mkfs 64 0": impl.ErrArgs, "mkfs 64 0 0 0": impl.ErrArgs, "mkfs 64 0 0 0 0": impl.ErrArgs, "mkfs x": impl.ErrArgs, "mkfs x x": impl.ErrArgs, "mkfs x x x x": impl.ErrArgs, "mkfs 63 0": impl.ErrArgs, "mkfs 63 0 0 x": impl.ErrArgs, "mkfs 64 0 \n0": impl.ErrArgs, "mkfs\n64 0 0": impl.ErrArgs, "mkfs 64 0\nbad": impl.ErrArgs,
		"mkfs x 0 0": impl.ErrNumber, "mkfs 64 x 0": impl.ErrNumber, "mkfs 64 0 x": impl.ErrNumber, "mkfs 064 0 0": impl.ErrNumber, "mkfs 64 00 0": impl.ErrNumber, "mkfs 64 0 -0": impl.ErrNumber, "mkfs +64 0 0": impl.ErrNumber, "mkfs 64 - 0": impl.ErrNumber, "mkfs 64 0 -": impl.ErrNumber, "mkfs % 0 0": impl.ErrNumber, "mkfs %36%34 0 0": impl.ErrNumber, "mkfs 64 0 1234567890123456": impl.ErrNumber, "mkfs 63 0 x": impl.ErrNumber, "mkfs 1 1 \xff": impl.ErrNumber, "mkfs x 0 0\nbad": impl.ErrNumber, "mkfs 64. 0 0": impl.ErrNumber, "mkfs 64 0 0\t": impl.ErrNumber,
		"mkfs 63 0 0": impl.ErrRange, "mkfs 2049 0 0": impl.ErrRange, "mkfs -64 0 0": impl.ErrRange, "mkfs 0 0 0": impl.ErrRange, "mkfs 64 -1 0": impl.ErrRange, "mkfs 64 1001 0": impl.ErrRange, "mkfs 64 0 1": impl.ErrRange, "mkfs 64 0 8191": impl.ErrRange, "mkfs 64 0 65537": impl.ErrRange, "mkfs 64 0 -8192": impl.ErrRange, "mkfs 999999999999999 0 0": impl.ErrRange, "mkfs 64 999999999999999 999999999999999": impl.ErrRange, "mkfs -999999999999999 0 0": impl.ErrRange, "mkfs 63 0 0\nbad": impl.ErrRange, "mkfs 63 0 0\nuser x": impl.ErrRange, "mkfs 0 0 0\nmkfs 64 0 0": impl.ErrRange, "mkfs 0 64 0": impl.ErrRange, "mkfs 8192 0 64": impl.ErrRange,
	} {
		scriptRefused(t, fmt.Sprintf("%.40q", script), script, code)
		scriptRefused(t, fmt.Sprintf("%.40q behind a comment", script), "# first\n\n"+script, code)
	}
	for _, first := range []string{"mkfs 64 0 0", " mkfs 64 0 0", "mkfs   64 0   0  ", "mkfs 64 1000 65536", "mkfs 2048 1000 8192", "mkfs 64 1 8192"} {
		scriptTells(t, first, first)
		scriptTells(t, first, first+"\n")
		scriptTells(t, first, first+"\n\n")
	}
	// Each number is at its place.
	scriptTells(t, "the numbers", "mkfs 72 2 0\nstatfs\ncreate /a 0\nstatfs\ncreate /b 0\nstatfs", "0 0 usage:72:68:0:1:0:1:0:0:1:1", "0 2", "0 0 usage:72:68:2:1:0:2:512:1:2:1", "0 3", "0 0 usage:72:67:0:1:0:3:512:2:3:2")
	scriptTells(t, "a log", "mkfs 64 0 8192\ncreate /a 0\ncrash 0 -\nstat /a", "0 2", "0 0", "0 0 stat:2:1:1:0:0:0:0:2:2:2")
	scriptTells(t, "no log", "mkfs 64 0 0\ncreate /a 0\ncrash 0 -\nstat /a", "0 2", "0 0", "2 0")
}

func TestSecondMkfsOfAScript(t *testing.T) {
	for _, line := range []string{"mkfs 64 0 0", "mkfs", "mkfs x", "mkfs 1 1 1", " mkfs 64 0 0"} {
		scriptRefused(t, line, "mkfs 64 0 0\n"+line, impl.ErrWord)
		scriptRefused(t, line, "mkfs 64 0 0\ncp\n"+line+"\ncp", impl.ErrWord)
		scriptRefused(t, line+", too long", "mkfs 64 0 0\n"+line+strings.Repeat(" ", impl.MaxLine), impl.ErrLarge)
	}
}

func TestUsersOfAScript(t *testing.T) {
	for line, code := range map[string]int{
		"user": impl.ErrArgs, "user 1": impl.ErrArgs, "user 1 2 3": impl.ErrArgs, "user x": impl.ErrArgs, "user x x x": impl.ErrArgs, "user -": impl.ErrArgs, "user %": impl.ErrArgs,
		"user x 1": impl.ErrNumber, "user 1 x": impl.ErrNumber, "user x x": impl.ErrNumber, "user 01 1": impl.ErrNumber, "user 1 01": impl.ErrNumber, "user -0 0": impl.ErrNumber, "user - 0": impl.ErrNumber, "user 0 -": impl.ErrNumber, "user %31 0": impl.ErrNumber, "user 1 %": impl.ErrNumber, "user +1 1": impl.ErrNumber, "user 1234567890123456 1": impl.ErrNumber, "user 1 \xff": impl.ErrNumber,
		"User 1 1": impl.ErrWord, "users 1 1": impl.ErrWord, "use 1 1": impl.ErrWord, "%75ser 1 1": impl.ErrWord, "user\t1 1": impl.ErrWord,
	} {
		scriptRefused(t, line, "mkfs 64 0 0\n"+line, code)
		scriptRefused(t, line, "mkfs 64 0 0\ncreate /a 0\n"+line+"\nbad", code)
	}
	// At first 0 and 0; then whom the last such line names, in this order, also if nobody
	// has such numbers.
	scriptTells(t, "who does it", `mkfs 64 0 0
chmod / 777
create /a 600
  user   5   6
create /b 600
user 6 5
create /c 600
user 1 1
user 2 3
create /d 600
stat /a
stat /b
stat /c
stat /d
user 65535 65535
create /e 600
lstat /e
user -1 0
stat /a
cp
user 0 -1
stat /a
user 65536 0
stat /a
user 0 65536
stat /a
user 999999999999999 -999999999999999
stat /a
fuse 1
crash 0 -
user 0 0
stat /
`, "0 0", "0 2", "0 3", "0 4", "0 5", "0 0 stat:2:1:1:384:0:0:0:3:3:3", "0 0 stat:3:1:1:384:5:6:0:4:4:4", "0 0 stat:4:1:1:384:6:5:0:5:5:5", "0 0 stat:5:1:1:384:2:3:0:6:6:6", "0 6", "0 0 stat:6:1:1:384:65535:65535:0:7:7:7",
		"7 0", "7 0", "7 0", "7 0", "7 0", "7 0", "0 0", "0 0", "0 0 stat:1:2:2:493:0:0:0:1:1:1")
	// A user alone is no operation.
	scriptTells(t, "users alone", "mkfs 64 0 0\nuser 1 1\nuser 2 2\n")
}

// The first line that is refused counts, whatever those behind it are; none of the
// operations ahead of it is told.
func TestWhichFaultOfAScriptIsTold(t *testing.T) {
	bad := []struct {
		line string
		code int
	}{
		{"bad", impl.ErrWord}, {"cp cp", impl.ErrArgs}, {"fuse x", impl.ErrNumber}, {"stat %", impl.ErrHex}, {"cp" + strings.Repeat(" ", impl.MaxLine), impl.ErrLarge}, {"user", impl.ErrArgs}, {"user x x", impl.ErrNumber}, {"mkfs 64 0 0", impl.ErrWord}, {"bad" + strings.Repeat(" ", impl.MaxLine), impl.ErrLarge},
	}
	many := strings.Repeat("cp\n", impl.MaxOps+1)
	for _, first := range bad {
		name := fmt.Sprintf("%.20q", first.line)
		scriptRefused(t, name, "mkfs 64 0 0\n"+first.line, first.code)
		scriptRefused(t, name+" behind others", "mkfs 64 0 0\nmkdir /d 7\nstat /none\nuser 1 1\n"+first.line+"\ncp\n", first.code)
		for _, second := range bad {
			scriptRefused(t, name+fmt.Sprintf(" and %.20q", second.line), "mkfs 64 0 0\ncp\n"+first.line+"\n"+second.line+"\n", first.code)
		}
		scriptRefused(t, name+" ahead of too many", "mkfs 64 0 0\n"+first.line+"\n"+many, first.code)
		scriptRefused(t, name+" behind too many", "mkfs 64 0 0\n"+many+first.line+"\n", first.code)
		if !strings.HasPrefix(first.line, "mkfs") {
			scriptRefused(t, name+" ahead of mkfs", first.line+"\nmkfs 64 0 x", impl.ErrWord)
		}
	}
	scriptRefused(t, "too many, behind numbers that are refused", "mkfs 63 0 0\n"+many, impl.ErrRange)
	scriptRefused(t, "too many, no mkfs", many, impl.ErrWord)
}

func TestScriptsOfManyOperations(t *testing.T) {
	for _, n := range []int{0, 1, impl.MaxOps - 1, impl.MaxOps} {
		got, code := scripted(t, fmt.Sprint(n, " operations"), "mkfs 64 0 0\n"+strings.Repeat("cp\n", n))
		if code != impl.OK || got != strings.Repeat("0 0\n", n) {
			t.Errorf("%d operations: code %d, %d bytes", n, code, len(got))
		}
		// Users, comments and empty lines aren't counted.
		got, code = scripted(t, fmt.Sprint(n, " operations and others"), "mkfs 64 0 0\n"+strings.Repeat("cp\n#\n\nuser 0 1\n \n", n))
		if code != impl.OK || got != strings.Repeat("0 0\n", n) {
			t.Errorf("%d operations and others: code %d, %d bytes", n, code, len(got))
		}
	}
	for _, n := range []int{impl.MaxOps + 1, impl.MaxOps + 2, 2 * impl.MaxOps, 21000} {
		scriptRefused(t, fmt.Sprint(n, " operations"), "mkfs 64 0 0\n"+strings.Repeat("cp\n", n), impl.ErrLarge)
	}
}

func TestLongScripts(t *testing.T) {
	for _, head := range []string{workedScript, "# " + strings.Repeat("x", 60000) + "\n" + workedScript} {
		for _, filling := range []string{" ", "\n", "#", " \n", "#\n"} {
			full := head + strings.Repeat(filling, impl.MaxScript)
			scriptTells(t, fmt.Sprintf("MaxScript bytes of %q", filling), full[:impl.MaxScript], workedLines...)
			scriptTells(t, fmt.Sprintf("MaxScript bytes less 1 of %q", filling), full[:impl.MaxScript-1], workedLines...)
			scriptRefused(t, fmt.Sprintf("MaxScript bytes and 1 of %q", filling), full[:impl.MaxScript+1], impl.ErrLarge)
		}
	}
	for _, script := range []string{strings.Repeat("#", impl.MaxScript+1), strings.Repeat("\n", impl.MaxScript+1), strings.Repeat("\xff", impl.MaxScript+1), strings.Repeat("bad ", impl.MaxScript), "mkfs 63 0 0" + strings.Repeat(" ", impl.MaxScript)} {
		scriptRefused(t, fmt.Sprintf("%.12q, too long", script), script, impl.ErrLarge)
	}
	for _, script := range []string{strings.Repeat("#", impl.MaxScript), strings.Repeat("\n", impl.MaxScript), strings.Repeat("\xff", impl.MaxScript), strings.Repeat("bad ", impl.MaxScript/4), strings.Repeat(" ", impl.MaxScript)} {
		scriptRefused(t, fmt.Sprintf("%.12q, just MaxScript", script), script, impl.ErrWord)
	}
}

// A line of more than MaxLine bytes is refused where ParseLine reads it. Those that are left
// out, mkfs and user are not its lines.
func TestLongLinesOfScripts(t *testing.T) {
	spaces := strings.Repeat(" ", impl.MaxLine)
	scriptTells(t, "just MaxLine", "mkfs 64 0 0\ncp"+spaces[2:]+"\n"+spaces[2:]+"cp", "0 0", "0 0")
	scriptRefused(t, "one more", "mkfs 64 0 0\ncp"+spaces[1:], impl.ErrLarge)
	scriptRefused(t, "one more, in front", "mkfs 64 0 0\n"+spaces[1:]+"cp\n", impl.ErrLarge)
	scriptRefused(t, "a long unknown word", "mkfs 64 0 0\n"+strings.Repeat("x", impl.MaxLine+1), impl.ErrLarge)
	scriptRefused(t, "an unknown word", "mkfs 64 0 0\n"+strings.Repeat("x", impl.MaxLine), impl.ErrWord)
	scriptRefused(t, "long data", "mkfs 64 0 0\nreceive "+strings.Repeat("x", impl.MaxLine), impl.ErrLarge)
	scriptTells(t, "data", "mkfs 64 0 0\nreceive "+strings.Repeat("x", impl.MaxLine-8), "21 0")
	scriptTells(t, "a long mkfs", "mkfs 64 0 0"+spaces+"\ncp", "0 0")
	scriptRefused(t, "a long mkfs with too few words", "mkfs 64 0"+spaces+"\ncp", impl.ErrArgs)
	scriptTells(t, "a long user", "mkfs 64 0 0\nuser"+spaces+"5 5\ncreate /a 0", "3 0")
	scriptRefused(t, "a long user with a wrong number", "mkfs 64 0 0\nuser 5 x"+spaces, impl.ErrNumber)
	scriptRefused(t, "a long user with a long number", "mkfs 64 0 0\nuser 5 "+strings.Repeat("1", impl.MaxLine), impl.ErrNumber)
}

// storyScript uses a volume with a log as several users: it reads and writes, makes,
// restores and deletes snapshots, sends, fails and comes back.
const storyScript = `# a volume with a log, used by three users
mkfs 100 0 8192
mkdir /home 755
mkdir /home/ann 700
chown /home/ann 5 6
mkdir /tmp 1777
user 5 6
create /home/ann/notes 640
write /home/ann/notes 0 one%20two%0a
symlink /tmp/n ../home/ann/notes
readlink /tmp/n
read /tmp/n 4 100
stat /tmp/n
lstat /tmp/n
user 7 7
read /tmp/n 0 9
unlink /tmp/n
create /tmp/- 666
write /tmp/- 1500 %2d
seek /tmp/- 0 0
seek /tmp/- 0 1
create /new 644
snap mine
user 0 0
list /tmp
snap monday
snaps
rename /tmp/- /home/dash%3a%25
link /home/dash%3a%25 /second
truncate /second 1501
chmod /second 600
statfs
cp
list /home
read /.snapshot/monday/tmp/- 1498 9
unlink /.snapshot/monday/tmp/-
list /.snapshot
rmdir /home
rmdir /nowhere
restore monday
list /home
stat /second
fuse 5
create /lost 0
create /found 7777
cp
statfs
fuse 100
user 9 -1
crash 0 %01
user 65535 65535
stat /found
stat /lost
cp
user 0 0
send monday monday
send monday tuesday
receive -
unsnap monday
unsnap monday
snaps
crash 5 -
crash 0 -
statfs
`

func TestAStoryAsAScript(t *testing.T) {
	want := []string{"0 2", "0 3", "0 0", "0 4", "0 5", "0 8", "0 6", "0 17 =../home/ann/notes", "0 4 =two%0a", "0 0 stat:5:1:1:416:5:6:8:6:7:7", "0 0 stat:6:3:1:511:5:6:17:8:8:8",
		"3 0", "1 0", "0 7", "0 1", "0 1024", "0 0", "3 0", "1 0",
		"0 2 %2d:7:1 n:6:3", "0 1", "0 1 monday:1:2", "0 0", "0 0", "0 0", "0 0", "0 0 usage:100:87:5:1:1:7:3574:14:15:2", "0 0", "0 2 ann:3:2 dash%3a%25:7:1", "0 3 =%00%00%2d", "10 0", "0 1 monday:1:2", "13 0", "2 0", "0 1", "0 1 ann:3:2", "2 0",
		"0 0", "0 8", "0 9", "20 0", "20 0", "0 0", "0 0", "0 0 stat:9:1:1:4095:0:0:0:18:18:18", "0 0 stat:8:1:1:0:0:0:0:17:17:17", "1 0", "", "2 0", "21 0", "0 1", "2 0", "0 0", "0 0", "0 0", "0 0 usage:100:87:0:1:0:9:3574:18:19:6"}
	got, code := scripted(t, "a story", storyScript)
	lines := strings.Split(got, "\n")
	if code != impl.OK || len(lines) != len(want)+1 || lines[len(want)] != "" {
		t.Fatalf("code %d, %d lines, want %d", code, len(lines)-1, len(want))
	}
	for k, line := range want {
		if line == "" && !strings.HasPrefix(lines[k], "0 36 =stream01") || line != "" && lines[k] != line {
			t.Errorf("line %d: %.100q, want %q", k, lines[k], line)
		}
	}
	// And each answer is that of Run, held against chapter 13 too.
	numbers, ops, _ := plainReading(storyScript)
	out := runs(t, "a story", made(t, numbers[0], numbers[1], numbers[2]), ops)
	for k, ans := range out.Answers {
		if lines[k] != impl.TellAns(ans) {
			t.Errorf("%s: %.100q, want %.100q", tellOp(ops[k]), lines[k], impl.TellAns(ans))
		}
	}
}

// sentWord is the stream that the last line of a script tells, as it stands there.
func sentWord(t *testing.T, script string) string {
	t.Helper()
	got, code := scripted(t, "sending", script)
	lines := strings.Split(strings.TrimSuffix(got, "\n"), "\n")
	_, word, found := strings.Cut(lines[len(lines)-1], " =")
	if code != impl.OK || !found {
		t.Fatalf("%q: code %d, %.100q", script, code, got)
	}
	return word
}

// What one script sends another one receives, as the words that were told.
func TestScriptsThatMirrorAnother(t *testing.T) {
	head := "mkfs 64 0 8192\nchmod / 700\nsnap one\n"
	first := sentWord(t, head+"send - one")
	second := sentWord(t, head+"chown / 5 6\nsnap two\nchmod / 0\nsend one two")
	scriptTells(t, "a mirror", "mkfs 80 0 0\nreceive "+second+"\nstat /\nreceive "+first+"\nstat /\nuser 1 0\nreceive "+second+"\nuser 0 7\nreceive "+second+"\nstat /\nstatfs\nreceive "+second+"x\nreceive "+strings.ReplaceAll(first, "%00", "%01")+"\n",
		"24 0", "0 0 stat:1:2:2:493:0:0:0:1:1:1", "0 0", "0 0 stat:1:2:2:448:0:0:0:1:1:2", "1 0", "0 0", "0 0 stat:1:2:2:448:5:6:0:1:1:4", "0 0 usage:80:76:0:1:0:1:0:2:6:3", "21 0", "21 0")
}

// scriptOf writes a run as a script, with users where they change and lines that say nothing
// between; what can't be written it leaves out of the run. It tells the run too.
func scriptOf(random *rand.Rand, numbers [3]int, run []impl.Op) (string, []impl.Op) {
	silent := func() string {
		return []string{"", "", "", "\n", "# x\n", "   \n", "user 3 3\n"}[random.Intn(7)]
	}
	script := strings.ReplaceAll(silent(), "user", "#") + fmt.Sprintf("mkfs %d %d %d\n", numbers[0], numbers[1], numbers[2])
	ops, uid, gid := []impl.Op{}, 0, 0
	for _, op := range run {
		if op.Kind < impl.OpMkdir || op.Kind > impl.OpCrash {
			continue
		}
		whole := namedByTable(op)
		whole.Uid, whole.Gid = max(-1, min(70000, op.Uid)), max(-1, min(70000, op.Gid))
		line := written(random, whole)
		if len(line) > impl.MaxLine && op.Kind == impl.OpWrite {
			whole.Data = whole.Data[:len(whole.Data)*impl.MaxLine/len(line)/2]
			line = written(random, whole)
		}
		if len(line) > impl.MaxLine || len(script)+len(line) > impl.MaxScript-100 {
			continue
		}
		quiet := silent()
		script += quiet
		if whole.Uid != uid || whole.Gid != gid || strings.Contains(quiet, "user") {
			uid, gid = whole.Uid, whole.Gid
			script += fmt.Sprintf("user %d %d\n", uid, gid)
		}
		script += line + "\n"
		ops = append(ops, whole)
	}
	return strings.TrimSuffix(script, []string{"", "\n"}[random.Intn(2)]), ops
}

// Runs of all kinds, written as scripts: what is told is what Run answers, by the letter.
func TestScriptsAtRandom(t *testing.T) {
	t.Parallel()
	random := rand.New(rand.NewSource(165))
	kinds, codes := map[int]int{}, map[int]int{}
	for round := range 120 {
		numbers := [3]int{[]int{64, 80, 100, 300}[random.Intn(4)], []int{0, 1, 3, 10}[random.Intn(4)], []int{0, 8192, 65536}[random.Intn(3)]}
		m := made(t, numbers[0], numbers[1], numbers[2])
		script, ops := scriptOf(random, numbers, someRun(random, m, 60, true))
		out := impl.Run(m, ops)
		want := ""
		for k, ans := range out.Answers {
			want += plainTold(ans) + "\n"
			codes[ans.Code]++
			if ans.Code == impl.OK {
				kinds[ops[k].Kind]++
			}
		}
		got, code := scripted(t, fmt.Sprint("round ", round), script)
		if code != impl.OK || got != want {
			t.Errorf("round %d: code %d, %d bytes, want %d", round, code, len(got), len(want))
		}
		if t.Failed() {
			return
		}
	}
	for kind := 1; kind <= impl.OpCrash; kind++ {
		if kinds[kind] < 3 {
			t.Errorf("kind %d was done only %d times", kind, kinds[kind])
		}
	}
	for _, code := range []int{impl.ErrPower, impl.ErrNoEnt, impl.ErrAccess, impl.ErrPerm, impl.ErrInval} {
		if codes[code] < 10 {
			t.Errorf("codes %v", codes)
		}
	}
}

// Scripts of lines that are nearly right, and right ones that are hurt.
func TestHurtScriptsAtRandom(t *testing.T) {
	random := rand.New(rand.NewSource(166))
	codes := map[int]int{}
	for round := range 4000 {
		lines := strings.Split(workedScript, "\n")
		for range random.Intn(3) {
			k := random.Intn(len(lines))
			lines[k] = []string{"", "#" + lines[k], lines[k] + " ", lines[k] + " 1", anyLine(random), strings.TrimSuffix(lines[k], " 0"), "user 1 2", "user 1", "mkfs 64 0 0", strings.Replace(lines[k], "64", "63", 1)}[random.Intn(10)]
		}
		script := []byte(strings.Join(lines, "\n"))
		for range random.Intn(3) {
			script[random.Intn(len(script))] = " \n#%-0x\t\xff"[random.Intn(9)]
		}
		_, code := scripted(t, fmt.Sprintf("round %d: %q", round, script), string(script))
		codes[code]++
		if t.Failed() {
			return
		}
	}
	for _, code := range []int{impl.OK, impl.ErrWord, impl.ErrArgs, impl.ErrNumber, impl.ErrHex, impl.ErrRange} {
		if codes[code] < 20 {
			t.Errorf("codes %v", codes)
		}
	}
}

// Nothing is kept from script to script, and however many run at once, each tells the same.
func TestScriptsRunAtOnce(t *testing.T) {
	want, _ := impl.RunScript(storyScript)
	before := runtime.NumGoroutine()
	done := make(chan bool)
	for k := range 8 {
		go func() {
			same := true
			for range 4 {
				script, told := storyScript, want
				if k%2 == 0 {
					script, told = workedScript, strings.Join(workedLines, "\n")+"\n"
				}
				got, code := impl.RunScript(script)
				same = same && got == told && code == impl.OK
			}
			done <- same
		}()
	}
	for range 8 {
		if !<-done {
			t.Error("another text was told")
		}
	}
	for wait := 0; runtime.NumGoroutine() > before && wait < 100; wait++ {
		time.Sleep(10 * time.Millisecond)
	}
	if after := runtime.NumGoroutine(); after > before {
		t.Errorf("%d workers are left of %d", after, before)
	}
}
