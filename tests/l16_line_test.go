package tests

import (
	"regexp"
	"slices"
	"strconv"
	"strings"
	"testing"

	"loop.example/g00277/impl"
)

// lineKind is a line that there is (N is a number), and the call that it stands for.
type lineKind struct {
	words string
	does  func(c impl.Cluster, n []int64) impl.ScriptResult
}

func okBehind(r impl.ClusterResult) impl.ScriptResult {
	if r.Code != impl.OK {
		return impl.ScriptResult{Code: r.Code}
	}
	return impl.ScriptResult{Cluster: r.Cluster, Said: "ok"}
}

func okBehindDrive(r impl.DriveResult) impl.ScriptResult {
	return okBehind(impl.ClusterResult{Code: r.Code, Cluster: r.Cluster})
}

func saidOf(c impl.Cluster, r impl.TextResult) impl.ScriptResult {
	if r.Code != impl.OK {
		return impl.ScriptResult{Code: r.Code}
	}
	return impl.ScriptResult{Cluster: c, Said: r.Text}
}

// answeredOf is what is answered of a cluster, by a machine that runs all that is sealed.
func answeredOf(c impl.Cluster) impl.TextResult {
	ran := impl.RunEntries(16, c.Sealed)
	if ran.Code != impl.OK {
		return impl.TextResult{Code: ran.Code}
	}
	return impl.CellsText(impl.PlainOf(ran.Machine.Pool).Plain)
}

func askedBy(o func(n []int64) impl.Op) func(c impl.Cluster, n []int64) impl.ScriptResult {
	return func(c impl.Cluster, n []int64) impl.ScriptResult {
		return okBehind(impl.AskAt(c, n[0], entryOf(n[1], n[2], o(n[3:]))))
	}
}

func lineKinds() []lineKind {
	return []lineKind{
		{"", func(c impl.Cluster, n []int64) impl.ScriptResult { return impl.ScriptResult{Cluster: c} }},
		{"timeout N", func(c impl.Cluster, n []int64) impl.ScriptResult { return okBehind(impl.TimeoutAt(c, n[0])) }},
		{"beat N", func(c impl.Cluster, n []int64) impl.ScriptResult { return okBehind(impl.BeatAt(c, n[0])) }},
		{"crash N", func(c impl.Cluster, n []int64) impl.ScriptResult { return okBehind(impl.CrashAt(c, n[0])) }},
		{"take N", func(c impl.Cluster, n []int64) impl.ScriptResult { return okBehind(impl.DeliverMail(c, n[0], false)) }},
		{"keep N", func(c impl.Cluster, n []int64) impl.ScriptResult { return okBehind(impl.DeliverMail(c, n[0], true)) }},
		{"lose N", func(c impl.Cluster, n []int64) impl.ScriptResult { return okBehind(impl.LoseMail(c, n[0])) }},
		{"run N", func(c impl.Cluster, n []int64) impl.ScriptResult { return okBehindDrive(impl.RunCluster(c, n[0])) }},
		{"settle", func(c impl.Cluster, n []int64) impl.ScriptResult { return okBehindDrive(impl.SettleCluster(c)) }},
		{"answers", func(c impl.Cluster, n []int64) impl.ScriptResult { return saidOf(c, answeredOf(c)) }},
		{"show", func(c impl.Cluster, n []int64) impl.ScriptResult { return saidOf(c, impl.TextResult{Text: shownOf(c)}) }},
		{"ask N N N create N N", askedBy(func(n []int64) impl.Op { return opOf(impl.OpCreate, n[0], 0, n[1]) })},
		{"ask N N N write N N N", askedBy(func(n []int64) impl.Op { return opOf(impl.OpWrite, n[0], n[1], n[2]) })},
		{"ask N N N discard N N", askedBy(func(n []int64) impl.Op { return opOf(impl.OpDiscard, n[0], n[1], 0) })},
		{"ask N N N read N N", askedBy(func(n []int64) impl.Op { return opOf(impl.OpRead, n[0], n[1], 0) })},
		{"ask N N N snap N N", askedBy(func(n []int64) impl.Op { return opOf(impl.OpSnap, n[0], 0, n[1]) })},
		{"ask N N N delete N", askedBy(func(n []int64) impl.Op { return opOf(impl.OpDelete, n[0], 0, 0) })},
	}
}

func patternOf(words string) *regexp.Regexp {
	words = strings.ReplaceAll(words, " ", " +")
	return regexp.MustCompile(`\A *` + strings.ReplaceAll(words, "N", "([0-9]{1,3})") + ` *\z`)
}

// linePatterns stand at the places of the kinds.
var linePatterns = func() []*regexp.Regexp {
	var list []*regexp.Regexp
	for _, kind := range lineKinds() {
		list = append(list, patternOf(kind.words))
	}
	return list
}()

// stepIn is what a line comes to, by the call that it stands for.
func stepIn(c impl.Cluster, line string) impl.ScriptResult {
	if code := impl.ClusterFault(c); code != impl.OK {
		return impl.ScriptResult{Code: code}
	}
	for i, kind := range lineKinds() {
		found := linePatterns[i].FindStringSubmatch(line)
		if found == nil {
			continue
		}
		var numbers []int64
		for _, word := range found[1:] {
			n, _ := strconv.Atoi(word)
			numbers = append(numbers, int64(n))
		}
		return kind.does(c, numbers)
	}
	return impl.ScriptResult{Code: impl.ErrText}
}

func sameStep(a, b impl.ScriptResult) bool {
	return a.Code == b.Code && a.Said == b.Said && sameCluster(a.Cluster, b.Cluster)
}

func wantScript(t *testing.T, name string, got, want impl.ScriptResult) {
	t.Helper()
	if !sameStep(got, want) {
		t.Fatalf("%s: got %d, %q, %v, want %d, %q, %v", name, got.Code, got.Said, got.Cluster, want.Code, want.Said, want.Cluster)
	}
	if got.Code == impl.OK {
		wantClusterFault(t, name, got.Cluster, impl.OK)
	}
}

// wantStep asks that the line comes to what its call comes to.
func wantStep(t *testing.T, c impl.Cluster, line string) impl.ScriptResult {
	t.Helper()
	got := impl.StepScript(c, line)
	wantScript(t, strconv.Quote(line), got, stepIn(c, line))
	return got
}

func wantStepCode(t *testing.T, c impl.Cluster, line string, code int64) {
	t.Helper()
	wantScript(t, strconv.Quote(line), impl.StepScript(c, line), impl.ScriptResult{Code: code})
}

func wantNoLine(t *testing.T, line string) {
	t.Helper()
	wantStepCode(t, toldCluster(), line, impl.ErrText)
}

// eachCommand has a line of each kind, that has no code in the cluster that is told.
func eachCommand() []string {
	return []string{
		"timeout 1", "beat 0", "crash 2", "take 0", "keep 4", "lose 2", "run 3", "settle", "answers", "show",
		"ask 0 7 8 create 1 3", "ask 0 7 8 write 1 2 9", "ask 0 7 8 discard 1 2", "ask 0 7 8 read 1 2", "ask 0 7 8 snap 1 2", "ask 0 7 8 delete 1",
	}
}

// toldCluster has three nodes that agreed on a volume with a cell, and mails of more that was asked.
func toldCluster() impl.Cluster {
	c := impl.NewCluster(3).Cluster
	for i, o := range []impl.Op{opOf(impl.OpCreate, 1, 0, 3), opOf(impl.OpWrite, 1, 2, 9)} {
		c = impl.AskAt(c, 0, entryOf(5, int64(i+1), o)).Cluster
	}
	c = impl.SettleCluster(c).Cluster
	return impl.AskAt(c, 0, entryOf(5, 3, opOf(impl.OpSnap, 1, 0, 4))).Cluster
}

func TestEachCommand(t *testing.T) {
	c := toldCluster()
	said := map[string]string{"answers": "vol 1 3 2:9\n", "show": "node 0 0 normal 3 2\nnode 1 0 normal 2 2\nnode 2 0 normal 2 2\nmails 6 2\n"}
	for _, line := range eachCommand() {
		got := wantStep(t, c, line)
		want := said[line]
		if want == "" {
			want = "ok"
		}
		if got.Code != impl.OK || got.Said != want {
			t.Errorf("%q: got %d, %q, want %q", line, got.Code, got.Said, want)
		}
		if unchanged := sameCluster(got.Cluster, c); unchanged != (said[line] != "") {
			t.Errorf("%q: it came to %v", line, got.Cluster)
		}
	}
}

// Each call by its own words, as far as that can be told apart.
func TestCommandsByHand(t *testing.T) {
	c := toldCluster()
	wantScript(t, "timeout", impl.StepScript(c, "timeout 1"), okBehind(impl.TimeoutAt(c, 1)))
	wantScript(t, "beat", impl.StepScript(c, "beat 0"), okBehind(impl.BeatAt(c, 0)))
	wantScript(t, "crash", impl.StepScript(c, "crash 1"), okBehind(impl.CrashAt(c, 1)))
	wantScript(t, "take", impl.StepScript(c, "take 4"), okBehind(impl.DeliverMail(c, 4, false)))
	wantScript(t, "keep", impl.StepScript(c, "keep 4"), okBehind(impl.DeliverMail(c, 4, true)))
	wantScript(t, "lose", impl.StepScript(c, "lose 4"), okBehind(impl.LoseMail(c, 4)))
	wantScript(t, "run", impl.StepScript(c, "run 2"), okBehindDrive(impl.RunCluster(c, 2)))
	wantScript(t, "settle", impl.StepScript(c, "settle"), okBehindDrive(impl.SettleCluster(c)))
	x := entryOf(98, 997, opOf(impl.OpWrite, 96, 15, 254))
	wantScript(t, "ask", impl.StepScript(c, "ask 0 98 997 write 96 15 254"), okBehind(impl.AskAt(c, 0, x)))
	if got := impl.StepScript(c, "take 4"); len(got.Cluster.Nodes[1].Log) != 3 || len(got.Cluster.Mails) != 6 {
		t.Errorf("got %v", got)
	}
	if got := impl.StepScript(c, "keep 4"); len(got.Cluster.Nodes[1].Log) != 3 || len(got.Cluster.Mails) != 7 {
		t.Errorf("got %v", got)
	}
}

// The fault of the cluster is told ahead of a line that cannot be read, and of what the call would tell.
func TestStepTellsTheClusterFaultFirst(t *testing.T) {
	lines := append(eachCommand(), "", "  ", "\n", "take 0\n", "wink", "take", "take 999", "ask 9 0 0 delete 0", strings.Repeat("x", 2000))
	breaks := append(someBreaks(), clusterBreaks()[:100]...)
	for _, b := range breaks {
		for _, line := range lines {
			wantStepCode(t, brokenBy(b), line, b.code)
		}
	}
	for _, line := range lines {
		wantStepCode(t, impl.Cluster{}, line, impl.ErrMany)
	}
	if len(breaks) < 150 {
		t.Errorf("%d faults", len(breaks))
	}
}

// A line feed anywhere, also where there is nothing else or nothing that could be read.
func TestLineFeedInALine(t *testing.T) {
	for _, line := range append(eachCommand(), "", " ", "   ", "wink", "ask 0") {
		for at := range len(line) + 1 {
			wantNoLine(t, line[:at]+"\n"+line[at:])
		}
		wantNoLine(t, line+"\n\n")
		wantNoLine(t, "\n"+line+"\n")
		wantNoLine(t, line+" \n ")
		wantNoLine(t, line+"\r\n")
	}
	wantNoLine(t, "show\nshow")
	wantNoLine(t, strings.Repeat("\n", 2000))
}

func TestNothingIsTold(t *testing.T) {
	x := &dice{state: 1611}
	list := append(handMadeClusters(), toldCluster(), impl.NewCluster(1).Cluster, impl.NewCluster(5).Cluster)
	for round := range int64(50) {
		list = append(list, madeCluster(x, 1+round%5))
	}
	for _, c := range list {
		for _, n := range []int{0, 1, 2, 80, 5000} {
			wantScript(t, "nothing", impl.StepScript(c, strings.Repeat(" ", n)), impl.ScriptResult{Cluster: c})
		}
	}
	for _, line := range []string{"\t", "\r", "\x00", "\v", "\f", "\u00a0", "\u2003", "\xff", " \t ", "#", "-", "0", "00", "999", "1 2", "N"} {
		wantNoLine(t, line)
	}
}

// Blanks count for nothing, wherever they stand between words.
func TestBlanksAboutWords(t *testing.T) {
	c := toldCluster()
	for _, line := range eachCommand() {
		want := stepIn(c, line)
		if want.Code != impl.OK {
			t.Fatalf("%q: the code %d", line, want.Code)
		}
		for _, n := range []int{1, 2, 7, 3000} {
			blanks := strings.Repeat(" ", n)
			for _, wide := range []string{blanks + line, line + blanks, strings.ReplaceAll(line, " ", blanks), blanks + strings.ReplaceAll(line, " ", " "+blanks) + " " + blanks} {
				wantScript(t, line, impl.StepScript(c, wide), want)
			}
		}
		for _, other := range []string{"\t", "\r", "\x00", "\v", "\u00a0", "\u2003", ",", "_", ""} {
			if strings.Contains(line, " ") {
				wantNoLine(t, strings.Replace(line, " ", other, 1))
				wantNoLine(t, strings.ReplaceAll(line, " ", other))
			}
			if other != "" {
				wantNoLine(t, other+line)
				wantNoLine(t, line+other)
				wantNoLine(t, other+" "+line)
				wantNoLine(t, line+" "+other)
			}
		}
	}
}

// One word less, wherever it stood, and one more, wherever it comes to stand.
func TestWordsTooFewOrTooMany(t *testing.T) {
	lines := 0
	for _, line := range eachCommand() {
		words := strings.Fields(line)
		for at := range words {
			less := slices.Delete(slices.Clone(words), at, at+1)
			if len(less) > 0 {
				wantNoLine(t, strings.Join(less, " "))
			}
			wantNoLine(t, strings.Join(words[:at+1], " ")+" "+strings.Join(words, " "))
			lines++
		}
		for at := range len(words) + 1 {
			for _, more := range []string{"0", "1", "x", "N", "ask", "ok", words[0], words[len(words)-1]} {
				wantNoLine(t, strings.Join(slices.Insert(slices.Clone(words), at, more), " "))
				lines++
			}
		}
		wantNoLine(t, line+" "+line)
		wantNoLine(t, line+strings.Repeat(" 1", 5000))
	}
	if lines < 600 {
		t.Errorf("%d lines", lines)
	}
}

// nearly are words that differ from one by little.
func nearly(word string) []string {
	list := []string{word[1:], word[:len(word)-1], word + word, word + "s", word + "0", "0" + word, "x" + word, strings.ToUpper(word), strings.ToUpper(word[:1]) + word[1:], word + ":", "!" + word, word + "\x00", "\xff" + word, word + "\u0301", "0", "7", "N"}
	for at := range word {
		list = append(list, word[:at]+"x"+word[at+1:], word[:at]+word[at:at+1]+word[at:], word[:at]+word[at+1:], word[:at]+" "+word[at:])
	}
	return list
}

func TestWordsThatAreNearlyRight(t *testing.T) {
	lines := 0
	for _, line := range eachCommand() {
		words := strings.Fields(line)
		for at, word := range words {
			if word[0] <= '9' {
				continue
			}
			for _, near := range nearly(word) {
				if other := strings.TrimSpace(near); other == "" || other == word {
					continue
				}
				changed := slices.Clone(words)
				changed[at] = near
				wantNoLine(t, strings.Join(changed, " "))
				lines++
			}
		}
	}
	for _, line := range []string{"wink", "help", "new 3", "deliver 0", "ask", "ask 0", "ask 0 1 1", "ask 0 1 1 show", "ask 0 1 1 settle", "create 1 3", "write 1 2 9", "delete 1", "take settle", "show 0", "settle 0", "answers 16", "ok", "! 5", "vol 1 3", "node 0 0 normal 0 0", "run", "run run 1", "ask 0 1 1 take 0", "ask 0 1 1 1 1 1", "ask 0 1 1 2 1 2 9"} {
		wantNoLine(t, line)
	}
	if lines < 500 {
		t.Errorf("%d lines", lines)
	}
}

// noNumbers are words that are no numbers, none of them with a blank.
func noNumbers() []string {
	return []string{
		"0000", "0001", "1000", "9999", "00000000000000000000", "18446744073709551616", strings.Repeat("9", 3000), "-1", "-0", "+1", "+0", "--1", "1-", "1+", "1a", "a1", "1a1", "a", "aaa", "N",
		"0x1", "0b1", "0o7", "1e1", "1_0", "_1", "1_", "1.", ".1", "1.0", "1,", "1;", "1:", "#1", "1\t", "\t1", "1\x00", "\x001", "1\r", "\xff1", "1\xff", "\uff11", "\u0661", "1\u0301", "\u00b9", "\u00b2", "½", "/", ":", "0/", "0:", "one", "inf", "nan", "''",
	}
}

func TestWordsThatAreNoNumbers(t *testing.T) {
	for _, line := range eachCommand() {
		words := strings.Fields(line)
		for at, word := range words {
			if word[0] > '9' {
				continue
			}
			for _, other := range noNumbers() {
				changed := slices.Clone(words)
				changed[at] = other
				wantNoLine(t, strings.Join(changed, " "))
			}
		}
	}
}

// writings of a number, with noughts ahead as far as there may be.
func writings(n int64) []string {
	word := strconv.FormatInt(n, 10)
	list := []string{word}
	for len(word) < 3 {
		word = "0" + word
		list = append(list, word)
	}
	return list
}

// Each number there is, in each way to write it, told to each command that has one number.
func TestEachNumberOfALine(t *testing.T) {
	small, none := impl.NewCluster(1).Cluster, impl.NewCluster(2).Cluster
	full := clusterWith(normalCluster(3, 4, 2), manyMails(120)...)
	codes := map[int64]int{}
	for n := range int64(1000) {
		for _, word := range writings(n) {
			for _, name := range []string{"timeout ", "beat ", "crash ", "take ", "keep ", "lose "} {
				codes[wantStep(t, none, name+word).Code]++
				wantStep(t, full, name+word)
			}
			codes[wantStep(t, small, "run "+word).Code]++
			for name, many := range map[string]int64{"timeout ": 3, "crash ": 3, "lose ": 120, "take ": 120} {
				if got := impl.StepScript(full, name+word); (got.Code == impl.OK) != (n < many) {
					t.Fatalf("%s%s: the code %d", name, word, got.Code)
				}
			}
		}
	}
	for n, code := range map[string]int64{"0": impl.OK, "000": impl.OK, "119": impl.OK, "120": impl.OK, "121": impl.ErrRange, "122": impl.ErrRange, "999": impl.ErrRange} {
		if got := wantStep(t, full, "run "+n); got.Code != code {
			t.Errorf("run %s: the code %d", n, got.Code)
		}
	}
	if codes[impl.OK] < 121 || codes[impl.ErrRange] < 5000 {
		t.Errorf("codes %v", codes)
	}
}

// Numbers with noughts ahead are those without, at each place of each line.
func TestNoughtsAhead(t *testing.T) {
	c := toldCluster()
	for _, line := range eachCommand() {
		want := stepIn(c, line)
		words := strings.Fields(line)
		for at, word := range words {
			if word[0] > '9' {
				continue
			}
			for _, wide := range []string{"0" + word, "00" + word} {
				changed := slices.Clone(words)
				changed[at] = wide
				wantScript(t, line, impl.StepScript(c, strings.Join(changed, " ")), want)
			}
		}
	}
	wantScript(t, "all of three digits", impl.StepScript(c, "ask 000 007 008 write 001 002 009"), stepIn(c, "ask 0 7 8 write 1 2 9"))
	wantScript(t, "no number of eight", impl.StepScript(c, "beat 000"), okBehind(impl.BeatAt(c, 0)))
	wantScript(t, "not read by eights", impl.StepScript(clusterWith(normalCluster(3, 4, 2), manyMails(20)...), "lose 010"), okBehind(impl.LoseMail(clusterWith(normalCluster(3, 4, 2), manyMails(20)...), 10)))
}

// codedLine has a code in its cluster, that of the call.
type codedLine struct {
	cluster impl.Cluster
	line    string
	code    int64
}

func codedLines() []codedLine {
	c, still, last := toldCluster(), impl.NewCluster(3).Cluster, normalCluster(3, 200, 5)
	full, changing := normalCluster(3, 3, 40), withNode(normalCluster(3, 3, 5), changingNode(0, 3, 4, 3, 5))
	list := []codedLine{
		{c, "timeout 3", impl.ErrRange}, {c, "timeout 999", impl.ErrRange}, {last, "timeout 3", impl.ErrRange}, {last, "timeout 2", impl.ErrMany}, {last, "timeout 0", impl.ErrMany},
		{c, "beat 3", impl.ErrRange}, {c, "crash 3", impl.ErrRange}, {c, "beat 100", impl.ErrRange}, {c, "crash 010", impl.ErrRange},
		{still, "take 0", impl.ErrRange}, {still, "keep 0", impl.ErrRange}, {still, "lose 0", impl.ErrRange}, {c, "take 6", impl.ErrRange}, {c, "keep 6", impl.ErrRange}, {c, "lose 6", impl.ErrRange},
		{c, "run 121", impl.ErrRange}, {c, "run 999", impl.ErrRange},
		{c, "ask 3 1 1 delete 1", impl.ErrRange}, {c, "ask 1 1 1 delete 1", impl.ErrState}, {c, "ask 2 0 0 delete 0", impl.ErrState}, {c, "ask 3 0 0 delete 0", impl.ErrRange},
		{changing, "ask 0 1 1 delete 1", impl.ErrState}, {changing, "ask 1 1 1 delete 1", impl.ErrState}, {full, "ask 0 1 1 delete 1", impl.ErrMany}, {full, "ask 0 0 1 delete 1", impl.ErrRange}, {full, "ask 1 0 1 delete 1", impl.ErrState},
	}
	for _, o := range []string{"create 0 1", "create 100 1", "create 1 0", "create 1 17", "write 0 0 0", "write 1 16 0", "write 1 0 256", "write 999 999 999", "discard 1 16", "discard 0 0", "read 1 16", "read 100 0", "snap 1 0", "snap 1 100", "snap 0 1", "delete 0", "delete 100", "delete 999"} {
		list = append(list, codedLine{c, "ask 0 1 1 " + o, impl.ErrRange}, codedLine{c, "ask 1 1 1 " + o, impl.ErrState}, codedLine{full, "ask 0 1 1 " + o, impl.ErrRange})
	}
	for _, names := range []string{"0 1", "100 1", "999 1", "1 0", "0 0"} {
		list = append(list, codedLine{c, "ask 0 " + names + " write 1 2 9", impl.ErrRange})
	}
	return list
}

// With a code there is nothing beside it: neither a cluster nor anything said.
func TestLinesWithACode(t *testing.T) {
	for _, l := range codedLines() {
		wantStepCode(t, l.cluster, l.line, l.code)
		wantStep(t, l.cluster, l.line)
	}
}

// That a mail cannot be heard is no code.
func TestMailsThatCannotBeHeard(t *testing.T) {
	c := normalCluster(3, 6, 40)
	c.Mails = []impl.Mail{entryMail(0, 1, 6, 40, 40)}
	for _, line := range []string{"take 0", "keep 0"} {
		got := wantStep(t, c, line)
		wantScript(t, line, got, impl.ScriptResult{Cluster: withoutMail(c, 0), Said: "ok"})
	}
}

// What is answered is what all that is sealed comes to with 16 blocks, whatever else the nodes have.
func TestAnswersByLines(t *testing.T) {
	c := impl.NewCluster(3).Cluster
	wantScript(t, "nothing is sealed", impl.StepScript(c, "answers"), impl.ScriptResult{Cluster: c})
	c = normalCluster(3, 6, 40)
	wantScript(t, "nothing is sealed, and logs are full", impl.StepScript(c, "answers"), impl.ScriptResult{Cluster: c})
	var list []impl.Entry
	ask := func(o impl.Op) {
		list = append(list, entryOf(4, int64(len(list)+1), o))
	}
	ask(opOf(impl.OpCreate, 9, 0, 16))
	ask(opOf(impl.OpCreate, 3, 0, 2))
	want := "vol 9 16"
	for at := range int64(16) {
		want += " " + strconv.FormatInt(at, 10) + ":" + strconv.FormatInt(200+at, 10)
		ask(opOf(impl.OpWrite, 9, at, 200+at))
		sealed := withSealed(c, list)
		wantScript(t, "so far", impl.StepScript(sealed, "answers"), impl.ScriptResult{Cluster: sealed, Said: "vol 3 2\n" + want + "\n"})
	}
	ask(opOf(impl.OpWrite, 3, 0, 7))
	sealed := withSealed(c, list)
	wantScript(t, "no block is left", impl.StepScript(sealed, "answers"), impl.ScriptResult{Cluster: sealed, Said: "vol 3 2\n" + want + "\n"})
	ask(opOf(impl.OpDelete, 9, 0, 0))
	ask(opOf(impl.OpWrite, 3, 0, 7))
	sealed = withSealed(c, list)
	wantScript(t, "there are again", impl.StepScript(sealed, "answers"), impl.ScriptResult{Cluster: sealed, Said: "vol 3 2 0:7\n"})
	list = append(list, list[0])
	sealed = withSealed(c, list)
	wantScript(t, "asked too late", impl.StepScript(sealed, "answers"), impl.ScriptResult{Cluster: sealed, Said: "vol 3 2 0:7\n"})
	ask(opOf(impl.OpDelete, 3, 0, 0))
	sealed = withSealed(c, list)
	wantScript(t, "no volume is left", impl.StepScript(sealed, "answers"), impl.ScriptResult{Cluster: sealed})
}

// Of a cluster without a fault PlainAfter has no code: 40 entries have at most 40 clients, for whom there are sessions.
func TestAnswersHaveNoCode(t *testing.T) {
	x := &dice{state: 1612}
	forty := make([]impl.Entry, 40)
	for i := range forty {
		forty[i] = entryOf(99-int64(i), 999, opOf(impl.OpCreate, 1+int64(i), 0, 3))
	}
	lists := append(entryLists(), forty)
	for range 400 {
		lists = append(lists, anyEntries(x, x.upTo(41)), busyEntries(x, x.upTo(41)))
	}
	said := 0
	for _, list := range lists {
		if impl.LogFault(list) != impl.OK {
			continue
		}
		c := withSealed(normalCluster(3, 4, 5), list)
		got := wantStep(t, c, "answers")
		after := impl.PlainAfter(16, list, int64(len(list)))
		want := saidOf(c, impl.CellsText(after.Plain))
		if after.Code != impl.OK {
			want = impl.ScriptResult{Code: after.Code}
		}
		wantScript(t, "answers", got, want)
		if got.Code != impl.OK {
			t.Fatalf("%v: the code %d", list, got.Code)
		}
		if got.Said != "" {
			said++
		}
	}
	if said < 300 {
		t.Errorf("%d said something", said)
	}
}

func TestShowIsTheClusterText(t *testing.T) {
	x := &dice{state: 1613}
	list := slices.Concat(handMadeClusters(), steadyClusters())
	for round := range int64(200) {
		list = append(list, likelyCluster(x, 1+round%5), madeCluster(x, 1+round%5))
	}
	for _, c := range list {
		wantScript(t, "show", impl.StepScript(c, "show"), impl.ScriptResult{Cluster: c, Said: impl.ClusterText(c).Text})
		wantStep(t, c, "show")
	}
}

// All commands, told to nodes in any state.
func TestLinesOfManyClusters(t *testing.T) {
	x := &dice{state: 1614}
	codes := map[int64]int{}
	for round := range int64(400) {
		c := madeCluster(x, 1+round%5)
		if round%3 == 0 {
			c = likelyCluster(x, 1+round%5)
		}
		for _, kind := range lineKinds() {
			line := kind.words
			for strings.Contains(line, "N") {
				n := []int64{0, 0, x.upTo(3), x.upTo(5), x.upTo(17), x.upTo(121), x.upTo(1000)}[x.upTo(7)]
				line = strings.Replace(line, "N", strconv.FormatInt(n, 10), 1)
			}
			codes[wantStep(t, c, line).Code]++
		}
	}
	if codes[impl.OK] < 2000 || codes[impl.ErrRange] < 500 || codes[impl.ErrState] < 300 || codes[impl.ErrMany] < 5 || codes[impl.ErrText] != 0 {
		t.Errorf("codes %v", codes)
	}
}
