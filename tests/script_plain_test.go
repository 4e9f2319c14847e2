package tests

import (
	"bytes"
	"fmt"
	"math/rand"
	"regexp"
	"slices"
	"strconv"
	"strings"
	"testing"

	"loop.example/s02533/impl"
)

// plainTables is the table of chapter 16, each line behind the number of its kind.
const plainTables = `
1 mkdir P M
2 create P M
3 symlink P Q
4 link P Q
5 unlink P
6 rmdir P
7 rename P Q
8 write P N T
9 truncate P N
10 chmod P M
11 chown P N N
12 read P N N
13 readlink P
14 stat P
15 lstat P
16 list P
17 seek P N N
18 snap P
19 unsnap P
20 restore P
21 snaps
22 cp
23 statfs
24 send P Q
25 receive T
26 fuse N
27 crash N T
`

// row is a line of the table: the kind, the first word, and the letters of the others.
type row struct {
	kind    int
	word    string
	letters []string
}

func rows() []row {
	var list []row
	for _, line := range strings.Split(strings.TrimSpace(plainTables), "\n") {
		words := strings.Fields(line)
		kind, _ := strconv.Atoi(words[0])
		list = append(list, row{kind: kind, word: words[1], letters: words[2:]})
	}
	return list
}

func rowOf(kind int) row {
	for _, r := range rows() {
		if r.kind == kind {
			return r
		}
	}
	panic("the table has no such kind")
}

var (
	plainNumber = regexp.MustCompile(`\A(0|-?[1-9][0-9]{0,14})\z`)
	plainMode   = regexp.MustCompile(`\A[0-7]{1,6}\z`)
	plainText   = regexp.MustCompile(`\A([!-$&-~]|%[0-9a-f][0-9a-f])*\z`)
	plainEscape = regexp.MustCompile(`%[0-9a-f]{2}`)
)

func plainLineWords(line string) []string {
	return slices.DeleteFunc(strings.Split(line, " "), func(word string) bool { return word == "" })
}

func plainUnescaped(word string) []byte {
	if word == "-" {
		return nil
	}
	return plainEscape.ReplaceAllFunc([]byte(word), func(escape []byte) []byte {
		n, _ := strconv.ParseUint(string(escape[1:]), 16, 8)
		return []byte{byte(n)}
	})
}

// plainWordFault is the code of a word that is to be what a letter of the table says.
func plainWordFault(letter, word string) int {
	switch letter {
	case "N":
		if !plainNumber.MatchString(word) {
			return impl.ErrNumber
		}
	case "M":
		if !plainMode.MatchString(word) {
			return impl.ErrNumber
		}
	default:
		if !plainText.MatchString(word) {
			return impl.ErrHex
		}
	}
	return impl.OK
}

// plainArguments is what the words behind the first say: the code, and the operation
// with all but its kind.
func plainArguments(letters, words []string) (impl.Op, int) {
	if len(words) != len(letters) {
		return impl.Op{}, impl.ErrArgs
	}
	var op impl.Op
	numbers := []*int{&op.A, &op.B}
	for k, word := range words {
		if code := plainWordFault(letters[k], word); code != impl.OK {
			return impl.Op{}, code
		}
		switch letters[k] {
		case "P":
			op.Path = string(plainUnescaped(word))
		case "Q":
			op.Path2 = string(plainUnescaped(word))
		case "T":
			op.Data = plainUnescaped(word)
		default:
			base := map[string]int{"N": 10, "M": 8}[letters[k]]
			n, _ := strconv.ParseInt(word, base, 64)
			*numbers[0], numbers = int(n), numbers[1:]
		}
	}
	return op, impl.OK
}

func plainParse(line string) (impl.Op, int) {
	if len(line) > 2048 {
		return impl.Op{}, impl.ErrLarge
	}
	words := plainLineWords(line)
	for _, r := range rows() {
		if len(words) > 0 && words[0] == r.word {
			op, code := plainArguments(r.letters, words[1:])
			if code == impl.OK {
				op.Kind = r.kind
			}
			return op, code
		}
	}
	return impl.Op{}, impl.ErrWord
}

// plainWord is bytes "as a word".
func plainWord(text string) string {
	if text == "" {
		return "-"
	}
	var word strings.Builder
	for _, b := range []byte(text) {
		if b < 33 || b > 126 || strings.IndexByte("%:-", b) >= 0 {
			fmt.Fprintf(&word, "%%%02x", b)
		} else {
			word.WriteByte(b)
		}
	}
	return word.String()
}

func plainTold(a impl.Ans) string {
	line := fmt.Sprintf("%d %d", a.Code, a.N)
	if len(a.Data) > 0 {
		line += " =" + plainWord(string(a.Data))
	}
	colons := func(numbers any) string {
		return strings.ReplaceAll(strings.Trim(fmt.Sprint(numbers), "{}"), " ", ":")
	}
	if a.Stat != (impl.Stat{}) {
		line += " stat:" + colons(a.Stat)
	}
	for _, d := range a.Names {
		line += fmt.Sprintf(" %s:%d:%d", plainWord(d.Name), d.Ino, d.Kind)
	}
	if a.Usage != (impl.Usage{}) {
		line += " usage:" + colons(a.Usage)
	}
	return line
}

// plainReading is what a script asks for: the three numbers of the volume, the operations,
// and the code.
func plainReading(script string) ([3]int, []impl.Op, int) {
	var numbers [3]int
	if len(script) > 65536 {
		return numbers, nil, impl.ErrLarge
	}
	lines := slices.DeleteFunc(strings.Split(script, "\n"), func(line string) bool {
		words := plainLineWords(line)
		return len(words) == 0 || words[0][0] == '#'
	})
	if len(lines) == 0 || plainLineWords(lines[0])[0] != "mkfs" {
		return numbers, nil, impl.ErrWord
	}
	words := plainLineWords(lines[0])[1:]
	if len(words) != 3 {
		return numbers, nil, impl.ErrArgs
	}
	for k, word := range words {
		if code := plainWordFault("N", word); code != impl.OK {
			return numbers, nil, code
		}
		numbers[k], _ = strconv.Atoi(word)
	}
	if _, code := impl.Mkfs(numbers[0], numbers[1], numbers[2]); code != impl.OK {
		return numbers, nil, code
	}
	var ops []impl.Op
	uid, gid := 0, 0
	for _, line := range lines[1:] {
		if words := plainLineWords(line); words[0] == "user" {
			user, code := plainArguments([]string{"N", "N"}, words[1:])
			if code != impl.OK {
				return numbers, nil, code
			}
			uid, gid = user.A, user.B
			continue
		}
		op, code := plainParse(line)
		if code != impl.OK {
			return numbers, nil, code
		}
		ops = append(ops, by(uid, gid, op))
	}
	if len(ops) > 2000 {
		return numbers, nil, impl.ErrLarge
	}
	return numbers, ops, impl.OK
}

func plainScript(script string) (string, int) {
	numbers, ops, code := plainReading(script)
	if code != impl.OK {
		return "", code
	}
	m, _ := impl.Mkfs(numbers[0], numbers[1], numbers[2])
	var text strings.Builder
	for _, ans := range impl.Run(m, ops).Answers {
		text.WriteString(plainTold(ans) + "\n")
	}
	return text.String(), impl.OK
}

// parses asks for the operation and the code of the plain rule, and that the operation is
// memory of its own; it tells both.
func parses(t *testing.T, line string) (impl.Op, int) {
	t.Helper()
	handed := strings.Clone(line)
	got, code := impl.ParseLine(handed)
	want, wantCode := plainParse(line)
	if code != wantCode || !sameOp(got, want) {
		t.Errorf("%.100q: %s, code %d, want %s, code %d", line, tellOp(got), code, tellOp(want), wantCode)
	}
	again, _ := impl.ParseLine(handed)
	for k := range again.Data {
		again.Data[k]++
	}
	if handed != line || !sameOp(got, want) {
		t.Errorf("%.100q: its bytes are shared", line)
	}
	return got, code
}

// parsesTo asks for an operation.
func parsesTo(t *testing.T, line string, want impl.Op) {
	t.Helper()
	if got, code := parses(t, line); code != impl.OK || !sameOp(got, want) {
		t.Errorf("%.100q: %s, code %d, want %s", line, tellOp(got), code, tellOp(want))
	}
}

// parsesWith asks for the code of a line that is refused.
func parsesWith(t *testing.T, line string, want int) {
	t.Helper()
	if got, code := parses(t, line); code != want || !sameOp(got, impl.Op{}) {
		t.Errorf("%.100q: %s, code %d, want %d", line, tellOp(got), code, want)
	}
}

// toldAs asks for the text of an answer, and that what was handed in is as it was.
func toldAs(t *testing.T, a impl.Ans, want string) {
	t.Helper()
	handed := a
	handed.Data = withSpare(a.Data)
	handed.Names = append(slices.Clone(a.Names), impl.Dirent{Name: "spare"})[:len(a.Names)]
	got := impl.TellAns(handed)
	if got != want {
		t.Errorf("%s: %.200q, want %.200q", tellAns(a), got, want)
	}
	if plain := plainTold(a); got != plain {
		t.Errorf("%s: %.200q, by the rule %.200q", tellAns(a), got, plain)
	}
	if !sameAns(handed, a) || !spareIntact(handed.Data) || handed.Names[:len(a.Names)+1][len(a.Names)].Name != "spare" {
		t.Errorf("%s: what was handed in has changed", tellAns(a))
	}
}

// scripted asks for what the plain rule tells of a script.
func scripted(t *testing.T, name, script string) (string, int) {
	t.Helper()
	handed := strings.Clone(script)
	got, code := impl.RunScript(handed)
	want, wantCode := plainScript(script)
	if code != wantCode || got != want {
		t.Errorf("%s: code %d, %.300q, want code %d, %.300q", name, code, got, wantCode, want)
	}
	if handed != script {
		t.Errorf("%s: the script has changed", name)
	}
	return got, code
}

// scriptTells asks for the lines that a script tells.
func scriptTells(t *testing.T, name, script string, lines ...string) {
	t.Helper()
	want := ""
	for _, line := range lines {
		want += line + "\n"
	}
	if got, code := scripted(t, name, script); code != impl.OK || got != want {
		t.Errorf("%s: code %d, %.300q, want %.300q", name, code, got, want)
	}
}

// scriptRefused asks for the code of a script that is refused.
func scriptRefused(t *testing.T, name, script string, want int) {
	t.Helper()
	if got, code := scripted(t, name, script); code != want || got != "" {
		t.Errorf("%s: code %d, %.300q, want code %d", name, code, got, want)
	}
}

// spelled is bytes as a word in some way: the bytes that must be are escaped, and with a
// random source some others too.
func spelled(random *rand.Rand, text string) string {
	if text == "" {
		return "-"
	}
	word := ""
	for _, b := range []byte(text) {
		must := b < 33 || b > 126 || b == '%' || text == "-"
		if must || random != nil && random.Intn(8) == 0 {
			word += fmt.Sprintf("%%%02x", b)
		} else {
			word += string(rune(b))
		}
	}
	return word
}

// written is an operation as a line by the rules, in the shortest way, or with spaces,
// escapes and zeros in front of modes as they come.
func written(random *rand.Rand, op impl.Op) string {
	space := func() string {
		if random == nil {
			return " "
		}
		return strings.Repeat(" ", 1+random.Intn(3))
	}
	r := rowOf(op.Kind)
	line, numbers := r.word, []int{op.A, op.B}
	for _, letter := range r.letters {
		line += space()
		switch letter {
		case "P":
			line += spelled(random, op.Path)
		case "Q":
			line += spelled(random, op.Path2)
		case "T":
			line += spelled(random, string(op.Data))
		case "N":
			line += fmt.Sprint(numbers[0])
			numbers = numbers[1:]
		case "M":
			mode := fmt.Sprintf("%o", numbers[0])
			if random != nil && len(mode) < 6 {
				mode = strings.Repeat("0", random.Intn(7-len(mode))) + mode
			}
			line += mode
		}
	}
	if random == nil {
		return line
	}
	return strings.TrimPrefix(space(), " ") + line + strings.TrimPrefix(space(), " ")
}

// namedByTable is an operation with just those fields that a line of its kind has, in the
// bounds of what can be written.
func namedByTable(op impl.Op) impl.Op {
	r := rowOf(op.Kind)
	has := func(letter string) bool { return slices.Contains(r.letters, letter) }
	number := func(n int) int { return max(-999999999999999, min(999999999999999, n)) }
	named := impl.Op{Kind: op.Kind}
	if has("P") {
		named.Path = op.Path
	}
	if has("Q") {
		named.Path2 = op.Path2
	}
	if has("T") {
		named.Data = bytes.Clone(op.Data)
	}
	switch {
	case has("M"):
		named.A = op.A & 0o777777
	case has("N"):
		named.A = number(op.A)
	}
	if slices.Index(r.letters, "N") >= 0 && r.letters[len(r.letters)-1] == "N" && len(r.letters) == 3 {
		named.B = number(op.B)
	}
	return named
}
