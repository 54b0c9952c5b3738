package tests

import (
	"fmt"
	"math/rand"
	"regexp"
	"strconv"
	"strings"
	"testing"

	"loop.example/kilncrew/impl"
)

// head are the lines up to world of most sessions here; each answer begins with that to them.
const (
	head   = "task a 2\ntask b 1 0\nworld k 2\n"
	okLine = "ok\n"
)

func checkSession(t *testing.T, text, want string) {
	t.Helper()
	if got := impl.Session(text); got != want {
		t.Errorf("%.300q:\n got %.2000q\nwant %.2000q", text, got, want)
	}
}

// checkLines asks for the answers to lines behind head.
func checkLines(t *testing.T, lines, want string) {
	t.Helper()
	checkSession(t, head+lines, okLine+want)
}

func checkNone(t *testing.T, text string) {
	t.Helper()
	checkSession(t, text, "no world\n")
}

// checkBad asks that a line is answered so, and leaves the world as it is.
func checkBad(t *testing.T, line string) {
	t.Helper()
	started := "tick\nbring 0\ntick\nbring 1\ntick\n"
	behind := "show\nbring 0\ncalm 1\nshow\ncalm 200\nshow\n"
	want := impl.Session(head + started + behind)
	cut := len(impl.Session(head + started))
	checkSession(t, head+started+line+"\n"+behind, want[:cut]+"bad\n"+want[cut:])
	checkSession(t, head+line, okLine+"bad\n")
}

// numberForm and wordForm are what N and a word are, said once more as patterns.
const (
	numberForm = `(?:0|[1-9][0-9]{0,6})`
	wordForm   = `[^ ]+`
)

var (
	taskForm  = regexp.MustCompile(`^task (` + wordForm + `) (` + numberForm + `)((?: ` + numberForm + `)*)$`)
	worldForm = regexp.MustCompile(`^world (` + wordForm + `) (` + numberForm + `)$`)
	calmForm  = regexp.MustCompile(`^calm (` + numberForm + `)$`)
	// eventForms are in the order of the kinds, from 1 on.
	eventForms = []*regexp.Regexp{
		regexp.MustCompile(`^tick$`),
		regexp.MustCompile(`^bring (` + numberForm + `)$`),
		regexp.MustCompile(`^double (` + numberForm + `)$`),
		regexp.MustCompile(`^lose (` + numberForm + `)$`),
		regexp.MustCompile(`^bend (` + numberForm + `) (` + numberForm + `) (` + numberForm + `)$`),
		regexp.MustCompile(`^fall (` + numberForm + `) (` + numberForm + `)$`),
		regexp.MustCompile(`^rise (` + numberForm + `)$`),
	}
)

// numbersIn are the numbers of words that are known to be some.
func numbersIn(words []string) []int {
	var out []int
	for _, word := range words {
		n, err := strconv.Atoi(word)
		if err != nil {
			panic(err)
		}
		out = append(out, n)
	}
	return out
}

func linesIn(text string) []string {
	var lines []string
	for text != "" {
		line, behind, _ := strings.Cut(text, "\n")
		lines = append(lines, line)
		text = behind
	}
	return lines
}

// A talk is a session as the document says it, line by line.
type talk struct {
	w       impl.World
	lines   []string
	answers string
}

// talkOf begins a session; nil if there is no world.
func talkOf(lines []string) *talk {
	var p impl.Plan
	for i, line := range lines {
		if found := taskForm.FindStringSubmatch(line); found != nil {
			cost := numbersIn(found[2:3])[0]
			p.Tasks = append(p.Tasks, impl.Task{Name: found[1], Cost: cost, Deps: numbersIn(strings.Fields(found[3]))})
			continue
		}
		found := worldForm.FindStringSubmatch(line)
		if found == nil {
			return nil
		}
		w := impl.NewWorld(p, found[1], numbersIn(found[2:])[0])
		if len(w.Workers) == 0 {
			return nil
		}
		return &talk{w: w, lines: lines[: i+1 : i+1], answers: okLine}
	}
	return nil
}

func (c *talk) say(line string) {
	c.lines = append(c.lines, line)
	c.answers += c.answerWanted(line) + "\n"
}

func (c *talk) answerWanted(line string) string {
	if line == "show" {
		return showWanted(c.w)
	}
	if found := calmForm.FindStringSubmatch(line); found != nil {
		rounds := numbersIn(found[1:])[0]
		if rounds > 200 {
			return "bad"
		}
		c.w = calmWanted(c.w, rounds)
		return strconv.Itoa(len(c.w.Flight))
	}
	for i, form := range eventForms {
		if found := form.FindStringSubmatch(line); found != nil {
			n := append(numbersIn(found[1:]), 0, 0, 0)
			c.w = doWanted(c.w, impl.Event{Kind: i + 1, A: n[0], B: n[1], C: n[2]})
			return strconv.Itoa(len(c.w.Flight))
		}
	}
	return "bad"
}

func showWanted(w impl.World) string {
	done, free := 0, 0
	for _, text := range w.Boss.Results {
		if text != "" {
			done++
		}
	}
	for _, worker := range w.Workers {
		if worker.Up && worker.State == 0 {
			free++
		}
	}
	text := fmt.Sprintf("%d done of %d, %d free, %d epoch", done, len(w.Plan.Tasks), free, w.Boss.Epoch)
	if wrong := impl.Wrong(w); wrong != -1 {
		text += fmt.Sprintf(" wrong %d", wrong)
	}
	if w.Forged != "" {
		text += " forged"
	}
	return text
}

func (c *talk) text() string {
	return strings.Join(c.lines, "\n")
}

// talkBehind is the talk behind all lines of a text that has a world.
func talkBehind(t *testing.T, text string) *talk {
	t.Helper()
	lines := linesIn(text)
	c := talkOf(lines)
	if c == nil {
		t.Fatalf("no world: %q", text)
	}
	for _, line := range lines[len(c.lines):] {
		c.say(line)
	}
	return c
}

func sessionWanted(t *testing.T, text string) string {
	t.Helper()
	lines := linesIn(text)
	if len(text) > 20000 || len(lines) > 500 {
		return "too long\n"
	}
	if talkOf(lines) == nil {
		return "no world\n"
	}
	return talkBehind(t, text).answers
}

func checkWanted(t *testing.T, text string) {
	t.Helper()
	checkSession(t, text, sessionWanted(t, text))
}

func checkNotBad(t *testing.T, line string) {
	t.Helper()
	if got := impl.Session(head + line); strings.Contains(got, "bad") || len(linesIn(got)) != 2 {
		t.Errorf("%q: %q", line, got)
	}
}

func TestSessionsAreTheDocuments(t *testing.T) {
	if impl.MaxSession != 20000 || impl.MaxLines != 500 {
		t.Errorf("%d, %d", impl.MaxSession, impl.MaxLines)
	}
	example := `task a 2
task b 1 0
world k 1
calm 3
show
calm 9
show
`
	checkSession(t, example, `ok
0
0 done of 2, 0 free, 1 epoch
0
2 done of 2, 1 free, 1 epoch
`)
	checkSession(t, "task a 1\nworld k 1", "ok\n")
}

func TestLinesOfSessions(t *testing.T) {
	free := "0 done of 2, 2 free, 1 epoch\n"
	for _, c := range [][2]string{
		{"", ""},
		{"show", free},
		{"show\n", free},
		{"show\n\n", free + "bad\n"},
		{"show\n\n\n", free + "bad\nbad\n"},
		{"\n", "bad\n"},
		{"\nshow", "bad\n" + free},
		{"show\n\nshow", free + "bad\n" + free},
		{" ", "bad\n"},
		{"show\n ", free + "bad\n"},
		{"show\nx", free + "bad\n"},
		{"show\r\nshow", "bad\n" + free},
		{"show\rshow", "bad\n"},
		{"show\x00\nshow", "bad\n" + free},
		{"show show", "bad\n"},
		{"tick tick", "bad\n"},
		{"\xff\xfe\n\x80\n\x00\n\u2028\n\u0085", "bad\nbad\nbad\nbad\nbad\n"},
	} {
		checkLines(t, c[0], c[1])
	}
	for _, text := range []string{"", "\n", "\n\n", " ", "\n" + head, " " + head, "\r" + head, "\x00", "\xff", "x", head[:len(head)-3] + "\n2\n"} {
		checkNone(t, text)
	}
	// A line's end is a newline and nothing else.
	checkSession(t, head[:len(head)-1], okLine)
	checkNone(t, strings.ReplaceAll(head, "\n", "\r\n"))
	checkNone(t, strings.ReplaceAll(head, "\n", "\r"))
	checkNone(t, head[:len(head)-1]+"\r\n")
	checkNone(t, strings.Replace(head, "\n", "\n\n", 1))
}

// lineSamples are lines that are answered, not with bad.
func lineSamples() []string {
	return []string{"tick", "bring 0", "double 0", "lose 0", "bend 0 3 255", "fall 1 0", "fall 0 1", "rise 1", "rise 0", "calm 5", "show"}
}

func TestSpacesInLines(t *testing.T) {
	for _, line := range lineSamples() {
		wrong := []string{" " + line, line + " ", "  " + line, line + "  ", "\t" + line, line + "\t", line + "\r", line + "\x00", "\x00" + line, line + "\u00a0", line + "\xa0", line + "\v", line + ";", strings.ToUpper(line)}
		for i := range len(line) {
			if line[i] == ' ' {
				for _, gap := range []string{"", "  ", "   ", "\t", " \t", "\t ", "\n ", "\u00a0", "\x00", ",", "_"} {
					wrong = append(wrong, line[:i]+gap+line[i+1:])
				}
			}
		}
		for _, one := range wrong {
			if strings.Contains(one, "\n") {
				checkWanted(t, head+one)
				continue
			}
			checkBad(t, one)
		}
	}
	for _, line := range []string{"task a 2", "world k 2"} {
		for _, one := range []string{" " + line, line + " ", strings.Replace(line, " ", "  ", 1), strings.Replace(line, " ", "\t", 1), line[:len(line)-2] + "  2", line[:len(line)-2] + "\t2", line + "\r", line + "\x00", line + "\t", "\ufeff" + line, strings.ToUpper(line)} {
			checkNone(t, strings.Replace(head, line, one, 1))
		}
	}
	checkNone(t, strings.Replace(head, "1 0", "1 0 ", 1))
	checkNone(t, strings.Replace(head, "1 0", "1  0", 1))
}

// notNumbers are words that are no N, and one that is no word.
func notNumbers() []string {
	return []string{"", "00", "01", "007", "0000001", "0000000", "00000000", "+1", "+0", "-1", "-0", "-", "+", "x", "1x", "x1", "N", "1.0", "1.", ".1", "1e1", "0x1", "0b1", "0o7", "1_0", "1,0", "1'", "10000000", "12345678", "00000001", "99999999", "4294967297", "9223372036854775807", "9223372036854775808", "18446744073709551617", strings.Repeat("1", 500), "\t1", "1\t", "1\r", "1\x00", "\x001", "1\xff", "１", "٣", "½", "²", "1\u00a0"}
}

// TestNumbers: each place of a line that has a number.
func TestNumbers(t *testing.T) {
	for _, word := range notNumbers() {
		for _, line := range []string{"bring N", "double N", "lose N", "bend N 0 1", "bend 0 N 1", "bend 0 0 N", "fall N 0", "fall 0 N", "rise N", "calm N"} {
			checkBad(t, strings.Replace(line, "N", word, 1))
		}
		for _, text := range []string{
			"task a N\nworld k 1\n",
			"task a 1\ntask b N 0\nworld k 1\n",
			"task a 1\ntask b 1 N\nworld k 1\n",
			"task a 1\ntask b 1\ntask c 1 N 1\nworld k 1\n",
			"task a 1\ntask b 1\ntask c 1 0 N\nworld k 1\n",
			"task a 1\nworld k N\n",
		} {
			checkNone(t, strings.Replace(text, "N", word, 1))
		}
	}
	for _, n := range []string{"0", "9", "10", "100", "12345", "999999", "1000000", "9999999"} {
		for _, line := range []string{"bring N", "double N", "lose N", "bend N 0 1", "bend 0 N 1", "bend 0 0 N", "fall N 0", "fall 0 N", "rise N"} {
			one := strings.Replace(line, "N", n, 1)
			checkWanted(t, head+"tick\ntick\n"+one+"\nshow")
			checkNotBad(t, one)
		}
	}
}

// TestGreatNumbers: a number of seven digits is what is done, not one near it.
func TestGreatNumbers(t *testing.T) {
	// 9999999 % 256 is 127, so this bend is undone by one of 127 and by none other.
	for mask := range 256 {
		free := 0
		if mask == 127 {
			free = 1
		}
		c := talkBehind(t, fmt.Sprintf("task a 9\nworld k 1\ntick\nbend 0 12 9999999\nbend 0 12 %d\nbring 0\ntick\n", mask))
		checkSession(t, c.text(), fmt.Sprintf("ok\n1\n1\n1\n0\n%d\n", free))
	}
	checkLines(t, "calm 200\nfall 0 9999999\nrise 0\nshow", "0\n0\n0\n2 done of 2, 2 free, 2 epoch\n")
	checkLines(t, "calm 2\nfall 9999999 0\nrise 1000000\nshow", "0\n0\n0\n0 done of 2, 1 free, 1 epoch\n")
}

func TestLinesUpToWorld(t *testing.T) {
	for _, text := range []string{
		"task a 2\n", "task a 2\ntask b 1 0\n", "task a 2\ntask b 1 0\nworl k 2\n",
		"world k 1\n", "world k 1\ntask a 2\n", "world k 2\n" + head,
		"x\n" + head, "ok\n" + head, "no world\n" + head, "\n" + head, head[1:], "task\n" + head, "tasks c 1\n" + head, "Task c 1\n" + head,
		"task a\nworld k 1\n", "task\nworld k 1\n", "task 2\nworld k 1\n", "task a b\nworld k 1\n", "task a 2 b\nworld k 1\n", "task a b 2\nworld k 1\n", "task  2\nworld k 1\n",
		"task a 2\nworld\n", "task a 2\nworld k\n", "task a 2\nworld 1\n", "task a 2\nworld k 1 1\n", "task a 2\nworld k l 1\n", "task a 2\nworld k 1 l\n", "task a 2\nworld  1\n", "task a 2\nworld k one\n",
		"task a 2\nWorld k 1\n", "task a 2\nworlds k 1\n",
		// A line that is no world line is none, though one comes behind it.
		"task a 2\nworld k\nworld k 1\n", "task a 2\nworld k 0\nworld k 1\n", "task a 2\nworld k 9\nworld k 1\n", "task a 2\nworld k 01\nworld k 1\n",
	} {
		checkNone(t, text)
		checkNone(t, strings.TrimSuffix(text, "\n"))
		checkNone(t, text+"tick\nshow\n")
	}
	for _, line := range append(lineSamples(), "calm 0", "look") {
		checkNone(t, line+"\n"+head)
		checkNone(t, strings.Replace(head, "task b", line+"\ntask b", 1))
		checkNone(t, strings.Replace(head, "world", line+"\nworld", 1))
	}
	// Behind the world line there is no other, and no task line.
	for _, line := range []string{"world k 2", "world l 1", "world k", "task c 1", "task c 1 0", "task a 2", "task"} {
		checkBad(t, line)
	}
}

func TestKeysAndCrews(t *testing.T) {
	for n := range 40 {
		text := "task a 2\nworld " + strings.Repeat("k", n) + " 1\nshow"
		if n < 1 || n > 30 {
			checkNone(t, text)
			continue
		}
		checkSession(t, text, "ok\n0 done of 1, 1 free, 1 epoch\n")
	}
	checkNone(t, "task a 2\nworld "+strings.Repeat("é", 16)+" 1")
	for b := range 256 {
		if b == ' ' || b == '\n' {
			continue
		}
		// A key may hold any bytes, and it is with this key that messages are sealed.
		text := "task a 2\nworld " + string([]byte{byte(b)}) + " 1\ncalm 99\nshow"
		checkSession(t, text, "ok\n0\n1 done of 1, 1 free, 1 epoch\n")
	}
	for n := range 20 {
		text := fmt.Sprintf("task a 2\nworld k %d\ntick\nshow", n)
		if n < 1 || n > 8 {
			checkNone(t, text)
			continue
		}
		checkSession(t, text, fmt.Sprintf("ok\n%d\n0 done of 1, %d free, 1 epoch\n", n, n))
	}
	for _, n := range []string{"256", "257", "264", "65537", "1000000", "9999999"} {
		checkNone(t, "task a 2\nworld k "+n)
	}
}

// planText writes any plan as task lines, valid or not.
func planText(p impl.Plan) string {
	text := ""
	for _, task := range p.Tasks {
		text += fmt.Sprintf("task %s %d", task.Name, task.Cost)
		for _, d := range task.Deps {
			text += fmt.Sprintf(" %d", d)
		}
		text += "\n"
	}
	return text
}

func TestPlansOfSessions(t *testing.T) {
	for code, plans := range wrongPlans() {
		for i, p := range plans {
			text := planText(p) + "world k 1\nshow\n"
			want := sessionWanted(t, text)
			if want != "no world\n" && want != "too long\n" {
				t.Errorf("case %d of code %d: %q", i, code, want)
			}
			checkSession(t, text, want)
		}
	}
	r := rand.New(rand.NewSource(17))
	plans := []impl.Plan{plainPlan(1), plainPlan(40), dearPlan(40), chainPlan(40), crewPlan(), standing(9, 8, 0, 1, 2, 3, 4, 5, 6, 7), standing(40, 39, 31, 32, 33, 34, 35, 36, 37, 38), named(strings.Repeat("~", 30)), named("task"), named("!"), named("0"), costing(20)}
	for range 20 {
		plans = append(plans, randomPlan(r))
	}
	for _, p := range plans {
		n := len(p.Tasks)
		begun := fmt.Sprintf("0 done of %d, 3 free, 1 epoch\n", n)
		done := fmt.Sprintf("%d done of %d, 3 free, 1 epoch\n", n, n)
		// The rounds that P11 names, by 200 at most; behind them nobody has anything to do.
		calms := strings.Repeat("calm 200\n", 8)
		checkSession(t, planText(p)+"world k 3\nshow\n"+calms+"show", okLine+begun+strings.Repeat("0\n", 8)+done)
		// The costs and Deps are those of the lines: each tick is as it would be.
		checkWanted(t, planText(p)+"world k 3\n"+strings.Repeat("calm 1\nshow\n", 40))
	}
}

func TestEachCommand(t *testing.T) {
	// Both tell that they are free; in flight: 1, 2.
	begun := "tick\n"
	for _, c := range [][2]string{
		{"tick", "2\n"},
		{"tick\ntick", "2\n2\n"},
		{"tick\ntick\ntick\ntick", "2\n2\n2\n4\n"},
		{"bring 0", "0\n"},
		{begun + "bring 0\nbring 0\nbring 0", "2\n1\n0\n0\n"},
		{begun + "bring 1\ntick\nshow\nbring 1\nshow", "2\n1\n2\n0 done of 2, 2 free, 1 epoch\n1\n0 done of 2, 1 free, 1 epoch\n"},
		{begun + "bring 2\nbring 3", "2\n2\n2\n"},
		{"double 0", "0\n"},
		{begun + "double 0\ndouble 2\ndouble 4\ndouble 1", "2\n3\n4\n4\n5\n"},
		{begun + "lose 0\nlose 1\nlose 0\nlose 0", "2\n1\n1\n0\n0\n"},
		{begun + "lose 0\nbring 0\ntick\nbring 0\nshow", "2\n1\n0\n1\n0\n0 done of 2, 1 free, 1 epoch\n"},
		{begun + "bend 0 0 1\nbring 0\ntick", "2\n2\n1\n1\n"},
		{begun + "bend 0 0 256\nbring 0\ntick", "2\n2\n1\n2\n"},
		{begun + "bend 0 0 0\nbring 0\ntick", "2\n2\n1\n2\n"},
		{begun + "bend 0 999 1\nbring 0\ntick", "2\n2\n1\n2\n"},
		{begun + "bend 2 0 1\nbring 0\ntick", "2\n2\n1\n2\n"},
		{begun + "bend 1 0 1\nbring 0\ntick", "2\n2\n1\n2\n"},
		{begun + "bend 0 18 3\nbend 0 18 3\nbring 0\ntick", "2\n2\n2\n1\n2\n"},
		{"fall 1 0\nshow\ntick", "0\n0 done of 2, 1 free, 1 epoch\n1\n"},
		{"fall 2 9\nfall 1 9\nfall 3 9\nshow\ntick", "0\n0\n0\n0 done of 2, 0 free, 1 epoch\n0\n"},
		{"fall 0 0\nshow\ntick\nrise 0\nshow", "0\n0 done of 2, 2 free, 0 epoch\n2\n2\n0 done of 2, 2 free, 2 epoch\n"},
		{"rise 0\nrise 1\nrise 2\nrise 3\nshow\ntick", "0\n0\n0\n0\n0 done of 2, 2 free, 1 epoch\n2\n"},
		{"fall 1 0\nrise 1\nshow\ntick", "0\n0\n0 done of 2, 2 free, 1 epoch\n2\n"},
		{"fall 1 0\nrise 2\nshow", "0\n0\n0 done of 2, 1 free, 1 epoch\n"},
		{"calm 1\ntick\nshow\ncalm 1\nshow", "0\n1\n0 done of 2, 2 free, 1 epoch\n0\n0 done of 2, 1 free, 1 epoch\n"},
		{begun + begun + begun + begun + "calm 1", "2\n2\n2\n4\n0\n"},
	} {
		checkLines(t, c[0], c[1])
		checkWanted(t, head+c[0])
	}
}

// TestKeepIsTheSecondNumber: a result that is loose stays if the coordinator keeps one entry, and is lost if it keeps none.
func TestKeepIsTheSecondNumber(t *testing.T) {
	// Loose is what came since the last flush, which is at each second tick.
	loose := "task a 1\nworld k 1\ncalm 1\ntick\nbring 0\ntick\nbring 0\n"
	for _, c := range [][2]string{
		{"show", "1 done of 1, 0 free, 1 epoch\n"},
		{"fall 0 0\nrise 0\nshow", "0\n0\n0 done of 1, 0 free, 2 epoch\n"},
		{"fall 0 1\nrise 0\nshow", "0\n0\n1 done of 1, 0 free, 2 epoch\n"},
		{"fall 0 2\nrise 0\nshow", "0\n0\n1 done of 1, 0 free, 2 epoch\n"},
		{"fall 1 0\nrise 0\nshow", "0\n0\n1 done of 1, 0 free, 1 epoch\n"},
		{"tick\nfall 0 0\nrise 0\nshow", "1\n1\n1\n1 done of 1, 0 free, 2 epoch\n"},
	} {
		checkSession(t, loose+c[0], "ok\n0\n1\n0\n1\n0\n"+c[1])
	}
}

func TestTooFewAndTooManyWords(t *testing.T) {
	sizes := map[string]int{"tick": 0, "bring": 1, "double": 1, "lose": 1, "bend": 3, "fall": 2, "rise": 1, "calm": 1, "show": 0}
	for word, size := range sizes {
		for n := range 8 {
			line := word + strings.Repeat(" 0", n)
			if n != size {
				checkBad(t, line)
			} else {
				checkNotBad(t, line)
			}
			checkBad(t, line+" x")
		}
		for _, other := range []string{word[1:], word[:len(word)-1], word + "s", word + word, strings.ToUpper(word), strings.ToUpper(word[:1]) + word[1:], word + ":", "0"} {
			checkBad(t, other+strings.Repeat(" 0", size))
		}
	}
	for _, line := range []string{"look", "bad", "ok", "0", "1", "N", "F", "tick,", "post 0", "event 1 0 0 0", "finished", "wrong", "forged", "too long", "no world", strings.Repeat("x", 300), strings.Repeat("0 ", 300) + "0"} {
		checkBad(t, line)
	}
}

func TestCalmOfSessions(t *testing.T) {
	checkLines(t, "calm 0\nshow\ntick\ncalm 0\nshow", "0\n0 done of 2, 2 free, 1 epoch\n2\n2\n0 done of 2, 2 free, 1 epoch\n")
	for _, n := range []string{"201", "202", "256", "1000", "2000", "2001", "9999999"} {
		checkBad(t, "calm "+n)
	}
	checkLines(t, "calm 199\nshow\ncalm 200\nshow", "0\n2 done of 2, 2 free, 1 epoch\n0\n2 done of 2, 2 free, 1 epoch\n")
	// One task behind the other, so that something changes every few rounds.
	for n := range 201 {
		checkWanted(t, planText(chainPlan(40))+"world k 1\n"+fmt.Sprintf("calm %d\nshow", n))
	}
}

// lieLines bend parcel k into other bytes of the same size.
func lieLines(w impl.World, k int, bytes string) string {
	text := ""
	for place := range len(bytes) {
		if mask := w.Flight[k].Bytes[place] ^ bytes[place]; mask != 0 {
			text += fmt.Sprintf("bend %d %d %d\n", k, place, mask)
		}
	}
	return text
}

// lastLine is the answer to the last line of a text.
func lastLine(t *testing.T, text string) string {
	t.Helper()
	checkWanted(t, text)
	lines := linesIn(impl.Session(text))
	return lines[len(lines)-1]
}

func checkShow(t *testing.T, what, text, want string) {
	t.Helper()
	if got := lastLine(t, text+"show\n"); got != want {
		t.Errorf("%s: %q, want %q", what, got, want)
	}
}

// TestShowOfLies: that a lie is shown, whether it is there still, and where. (That a result is wrong and nothing is forged cannot come of a session: P9.)
func TestShowOfLies(t *testing.T) {
	// Worker 1 is offered task 0, which costs 5, and tells its result; worker 2 is free.
	text := planText(crewPlan()) + "world k 2\ncalm 1\ntick\nbring 0\ntick\ntick\ntick\ntick\ntick\n"
	w := talkBehind(t, text).w
	k := -1
	for i, s := range w.Flight {
		if m, read := impl.ReadMessage(s.Bytes, "k"); read && m.Kind == impl.MsgResult {
			k = i
		}
	}
	if k < 0 {
		t.Fatalf("no result is on its way: %+v", w.Flight)
	}
	truth := impl.Truth(crewPlan())
	for _, task := range []int{0, 3, 9} {
		lie := onItsWay(impl.Message{Kind: impl.MsgResult, From: 1, Epoch: 1, Lease: 1, Task: task, Text: "a lie!!!"}, "k").Bytes
		bent := text + lieLines(w, k, lie)
		wrong := fmt.Sprintf(" wrong %d forged", task)
		checkShow(t, "before it is brought", bent, "0 done of 10, 1 free, 1 epoch")
		brought := bent + fmt.Sprintf("bring %d\n", k)
		checkShow(t, "brought", brought, "1 done of 10, 1 free, 1 epoch"+wrong)
		checkShow(t, "kept", brought+"fall 0 1\n", "0 done of 10, 1 free, 0 epoch"+wrong)
		checkShow(t, "risen", brought+"fall 0 1\nrise 0\n", "1 done of 10, 1 free, 2 epoch"+wrong)
		checkShow(t, "lost", brought+"fall 0 0\n", "0 done of 10, 1 free, 0 epoch forged")
		checkShow(t, "lost and risen", brought+"fall 0 0\nrise 0\n", "0 done of 10, 1 free, 2 epoch forged")
		checkShow(t, "at the end", brought+strings.Repeat("calm 200\n", 3), "10 done of 10, 2 free, 1 epoch"+wrong)
		checkShow(t, "lost, and all done", brought+"fall 0 0\nrise 0\n"+strings.Repeat("calm 200\n", 3), "10 done of 10, 2 free, 2 epoch forged")
		right := onItsWay(impl.Message{Kind: impl.MsgResult, From: 1, Epoch: 1, Lease: 1, Task: task, Text: truth[task]}, "k").Bytes
		if bent = text + lieLines(w, k, right); task != 0 {
			checkShow(t, "forged and true", bent+fmt.Sprintf("bring %d\n", k), "1 done of 10, 1 free, 1 epoch forged")
		} else {
			checkShow(t, "not forged at all", bent+fmt.Sprintf("bring %d\n", k), "1 done of 10, 1 free, 1 epoch")
		}
	}
}

// TestShowOfForgedOnes: worker 2 is made to seem free, or worker 1 to be in another epoch, with a right seal.
func TestShowOfForgedOnes(t *testing.T) {
	text := head + "tick\n"
	w := talkBehind(t, text).w
	for _, m := range []impl.Message{{Kind: impl.MsgHere, From: 2, Epoch: 1}, {Kind: impl.MsgHere, From: 8, Epoch: 1}, {Kind: impl.MsgHere, From: 1, Epoch: 300}, {Kind: impl.MsgBeat, From: 1, Epoch: 1, Lease: 1}, {Kind: impl.MsgThanks, To: 1, Epoch: 1, Lease: 1}} {
		bent := text + lieLines(w, 0, onItsWay(m, "k").Bytes)
		checkShow(t, "in flight", bent, "0 done of 2, 2 free, 1 epoch")
		checkShow(t, "lost", bent+"lose 0\n", "0 done of 2, 2 free, 1 epoch")
		checkShow(t, "brought", bent+"bring 0\n", "0 done of 2, 2 free, 1 epoch forged")
		checkShow(t, "its double brought", bent+"double 0\nlose 0\nbring 1\n", "0 done of 2, 2 free, 1 epoch forged")
		checkShow(t, "in calm", bent+"calm 1\n", "0 done of 2, 2 free, 1 epoch forged")
		other := text + lieLines(w, 0, onItsWay(m, "K").Bytes)
		checkShow(t, "with another key", other+"bring 0\n", "0 done of 2, 2 free, 1 epoch")
	}
}

func TestShowOfWorkers(t *testing.T) {
	// Each is free, then busy, then has told, then is free once more.
	for n := 1; n <= 8; n++ {
		text := planText(plainPlan(n)) + fmt.Sprintf("world k %d\n", n)
		checkShow(t, "begun", text, fmt.Sprintf("0 done of %d, %d free, 1 epoch", n, n))
		for down := 1; down <= n; down++ {
			text += fmt.Sprintf("fall %d 0\n", down)
			checkShow(t, "fallen", text, fmt.Sprintf("0 done of %d, %d free, 1 epoch", n, n-down))
		}
		text = planText(plainPlan(n)) + fmt.Sprintf("world k %d\ncalm 1\ntick\n", n)
		checkShow(t, "offered", text, fmt.Sprintf("0 done of %d, %d free, 1 epoch", n, n))
		for busy := 1; busy <= n; busy++ {
			text += "bring 0\n"
			checkShow(t, "busy", text, fmt.Sprintf("0 done of %d, %d free, 1 epoch", n, n-busy))
		}
		text += "tick\n"
		for told := 1; told <= n; told++ {
			text += "bring 0\n"
			checkShow(t, "told", text, fmt.Sprintf("%d done of %d, 0 free, 1 epoch", told, n))
		}
		text += "tick\n"
		for free := 1; free <= n; free++ {
			text += "bring 0\n"
			checkShow(t, "thanked", text, fmt.Sprintf("%d done of %d, %d free, 1 epoch", n, n, free))
		}
		checkShow(t, "the coordinator falls", text+"fall 0 0\n", fmt.Sprintf("0 done of %d, %d free, 0 epoch", n, n))
		checkShow(t, "and rises", text+"fall 0 0\nrise 0\n", fmt.Sprintf("%d done of %d, %d free, 2 epoch", n, n, n))
	}
}

func TestShowOfManyEpochs(t *testing.T) {
	lines, want := "", ""
	for epoch := range 160 {
		lines += "show\nfall 0 0\nrise 0\n"
		want += fmt.Sprintf("0 done of 2, 2 free, %d epoch\n0\n0\n", epoch+1)
	}
	checkLines(t, lines, want)
}

func TestTooLong(t *testing.T) {
	for _, c := range []struct {
		begin, answers string
	}{{head, "ok\n0 done of 2, 2 free, 1 epoch\nbad\n"}, {"", "no world\n"}, {"tick\n", "no world\n"}} {
		begun := c.begin + "show\n"
		for _, end := range []string{"", "\n"} {
			full := begun + strings.Repeat("x", 20000-len(begun)-len(end)) + end
			checkSession(t, full, c.answers)
			checkSession(t, full[:19999], c.answers)
			checkSession(t, full+"x", "too long\n")
			checkSession(t, full+"\n", "too long\n")
			checkSession(t, "x"+full, "too long\n")
			checkSession(t, full+full, "too long\n")
		}
	}
	for _, size := range []int{20000, 20001} {
		for _, b := range []string{"\x00", " ", "\xff", "x"} {
			want := "no world\n"
			if size > 20000 {
				want = "too long\n"
			}
			checkSession(t, strings.Repeat(b, size), want)
		}
	}
	checkSession(t, strings.Repeat("\n", 10000000), "too long\n")
	checkSession(t, strings.Repeat(head, 100000), "too long\n")
}

func TestTooManyLines(t *testing.T) {
	for _, line := range []string{"", "x", "show", "tick", "calm 0"} {
		answer := "bad\n"
		switch line {
		case "show":
			answer = "0 done of 2, 2 free, 1 epoch\n"
		case "calm 0":
			answer = "0\n"
		}
		full := head + strings.Repeat(line+"\n", 497)
		if line == "tick" {
			checkWanted(t, full)
		} else {
			checkSession(t, full, okLine+strings.Repeat(answer, 497))
		}
		if line != "" {
			checkSession(t, strings.TrimSuffix(full, "\n"), impl.Session(full))
		}
		checkSession(t, full+"\n", "too long\n")
		checkSession(t, full+"x", "too long\n")
		checkSession(t, full+line+"\n", "too long\n")
		checkSession(t, full+" ", "too long\n")
		checkSession(t, line+"\n"+full, "too long\n")
	}
	for n := 495; n < 506; n++ {
		want := "no world\n"
		if n > 500 {
			want = "too long\n"
		}
		checkSession(t, strings.Repeat("\n", n), want)
		checkSession(t, strings.Repeat("\n", n-1)+"x", want)
		checkSession(t, strings.Repeat("task a 1\n", n), want)
		checkSession(t, strings.TrimSuffix(strings.Repeat("task a 1\n", n), "\n"), want)
	}
}

// lineOf is the line of an event; one that finds no number or no word is bad.
func lineOf(e impl.Event) string {
	switch e.Kind {
	case impl.EvTick:
		return "tick"
	case impl.EvBring:
		return fmt.Sprintf("bring %d", e.A)
	case impl.EvDouble:
		return fmt.Sprintf("double %d", e.A)
	case impl.EvLose:
		return fmt.Sprintf("lose %d", e.A)
	case impl.EvBend:
		return fmt.Sprintf("bend %d %d %d", e.A, e.B, e.C)
	case impl.EvFall:
		return fmt.Sprintf("fall %d %d", e.A, e.B)
	case impl.EvRise:
		return fmt.Sprintf("rise %d", e.A)
	}
	return fmt.Sprintf("event %d %d", e.Kind, e.A)
}

// lie bends a result that is in flight into another, and brings it, if there is one.
func (c *talk) lie() {
	for k, s := range c.w.Flight {
		m, read := impl.ReadMessage(s.Bytes, c.w.Key)
		if read && m.Kind == impl.MsgResult {
			m.Text = "lie" + m.Text[3:]
			for _, line := range linesIn(lieLines(c.w, k, onItsWay(m, c.w.Key).Bytes)) {
				c.say(line)
			}
			c.say(fmt.Sprintf("bring %d", k))
			return
		}
	}
}

// randomTalk is a session of chance with lines of every kind.
func randomTalk(r *rand.Rand, lines int) *talk {
	p := randomPlan(r)
	p.Tasks = p.Tasks[:1+r.Intn(min(12, len(p.Tasks)))]
	text := planText(p) + fmt.Sprintf("world %s %d", []string{"k", "key", "\x00\xff", strings.Repeat("k", 30)}[r.Intn(4)], 1+r.Intn(4))
	c := talkOf(linesIn(text))
	h := &history{r: r}
	for len(c.lines) < lines {
		h.w = c.w
		switch n := r.Intn(60); {
		case n < 8:
			c.say("show")
		case n < 11:
			c.say(fmt.Sprintf("calm %d", r.Intn(4)))
		case n == 11:
			c.say(fmt.Sprintf("calm %d", r.Intn(300)))
		case n == 12:
			c.say([]string{"", " ", "x", "show ", "tick 1", "world k 1", "task z 1", "bring 00", "\x00", "calm 201", "fall 0", "bring 12345678"}[r.Intn(12)])
		case n < 16 && c.w.Forged == "" && len(c.lines) < lines-50:
			c.lie()
		default:
			c.say(lineOf(h.event()))
		}
	}
	return c
}

// TestBeginnings: P15. The answers to each beginning of the lines are the beginning of the answers to the whole.
func TestBeginnings(t *testing.T) {
	r := rand.New(rand.NewSource(18))
	seen := map[string]int{}
	for i := range 12 {
		c := randomTalk(r, 150)
		whole := c.text()
		if i == 0 {
			whole = randomTalk(r, 500).text()
		}
		answers := impl.Session(whole)
		up := len(talkOf(linesIn(whole)).lines)
		given := linesIn(answers)
		lines := linesIn(whole)
		if len(given) != len(lines)-up+1 {
			t.Fatalf("%d answers to %d lines, %d up to world", len(given), len(lines), up)
		}
		for n := range len(lines) + 1 {
			begin := ""
			for _, line := range lines[:n] {
				begin += line + "\n"
			}
			want := "no world\n"
			if n >= up {
				want = strings.Join(given[:n-up+1], "\n") + "\n"
			}
			checkSession(t, begin, want)
			if n > 0 && lines[n-1] != "" {
				checkSession(t, strings.TrimSuffix(begin, "\n"), want)
			}
		}
		for _, word := range []string{"bad", "wrong", "forged", " done of ", ", 0 epoch"} {
			seen[word] += strings.Count(answers, word)
		}
	}
	if seen["bad"] < 20 || seen[" done of "] < 100 || seen[", 0 epoch"] < 1 || seen["forged"] < 1 {
		t.Errorf("only %v", seen)
	}
}

// TestBeginningsWithoutAWorld: where the lines up to world make none, no line behind them mends it, but for the end of the plan and the world line.
func TestBeginningsWithoutAWorld(t *testing.T) {
	for _, begin := range []string{"tick\n", "\n", "world k 1\n", "task a\n", "task a 0\nworld k 1\n", "task a 1\nworld k 9\n", "task a 1\ntask a 1\nworld k 1\n", "task a 1\ntask b 1 1\nworld k 1\n", " \n"} {
		for _, behind := range []string{"", head, "task c 1\n", "world k 1\n", "show\n", "tick\ntick\n", head + head} {
			checkNone(t, begin+behind)
		}
	}
}

// TestSessionsOfChance: whole sessions with lines of every kind, and the same with some bytes changed, against the document said once more.
func TestSessionsOfChance(t *testing.T) {
	r := rand.New(rand.NewSource(19))
	seen := map[string]int{}
	for range 60 {
		c := randomTalk(r, 120)
		got := impl.Session(c.text())
		if got != c.answers {
			t.Fatalf("%q:\n got %q\nwant %q", c.text(), got, c.answers)
		}
		for _, word := range []string{"bad\n", "wrong", "forged", " done of ", ", 0 epoch"} {
			seen[word] += strings.Count(got, word)
		}
		for range 20 {
			text := changed(r, c.text())
			want := sessionWanted(t, text)
			checkSession(t, text, want)
			seen[want[:2]]++
		}
	}
	if seen["wrong"] < 10 || seen["forged"] < 20 || seen[", 0 epoch"] < 5 || seen["bad\n"] < 100 || seen["ok"] < 200 || seen["no"] < 30 {
		t.Errorf("only %v", seen)
	}
}

// changed is a text with some bytes of it left out, put in or taken for others, mostly such as mean something.
func changed(r *rand.Rand, text string) string {
	const bytes = "  \n\n0123456789 task world tick\t\r\x00\xff-+k"
	for range 1 + r.Intn(3) {
		at := r.Intn(len(text))
		// Mostly behind the plan, or there would seldom be a world.
		if r.Intn(3) > 0 {
			at = min(len(text)-1, at/2+len(text)/2)
		}
		one := string(bytes[r.Intn(len(bytes))])
		switch r.Intn(3) {
		case 0:
			text = text[:at] + text[at+1:]
		case 1:
			text = text[:at] + one + text[at:]
		default:
			text = text[:at] + one + text[at+1:]
		}
	}
	return text
}

// TestAnyText: texts that are hardly lines at all are answered too.
func TestAnyText(t *testing.T) {
	r := rand.New(rand.NewSource(20))
	words := []string{"task", "world", "a", "k", "0", "1", "2", " ", " ", "\n", "\n", "tick", "show", "calm", "bring", "", "\x00", "\xff", "fall", "rise", "99999999"}
	for range 20000 {
		text := ""
		for range r.Intn(30) {
			text += words[r.Intn(len(words))]
		}
		if r.Intn(2) == 0 {
			text = head + text
		}
		checkWanted(t, text)
	}
	for range 2000 {
		b := make([]byte, r.Intn(200))
		r.Read(b)
		checkNone(t, string(b))
	}
}

// TestSessionsKeepNothing: what was done in one session is in no other.
func TestSessionsKeepNothing(t *testing.T) {
	r := rand.New(rand.NewSource(21))
	texts := []string{"", head, "tick", head + "tick\nbring 0\nshow"}
	for range 6 {
		texts = append(texts, randomTalk(r, 80).text())
	}
	first := map[string]string{}
	for _, text := range texts {
		first[text] = impl.Session(text)
	}
	for range 50 {
		text := texts[r.Intn(len(texts))]
		checkSession(t, text, first[text])
	}
}
