package tests

import (
	"fmt"
	"slices"
	"strings"
	"testing"

	"loop.example/g00277/impl"
)

// linesIn are what line feeds end, and what is behind the last one, if it is not empty.
func linesIn(text string) []string {
	lines := strings.Split(text, "\n")
	if last := len(lines) - 1; lines[last] == "" {
		lines = lines[:last]
	}
	return lines
}

// heardOf is what a script says of a line.
func heardOf(step impl.ScriptResult) string {
	if step.Code != impl.OK {
		return fmt.Sprintf("! %d\n", step.Code)
	}
	if step.Said == "" || step.Said[len(step.Said)-1] == '\n' {
		return step.Said
	}
	return step.Said + "\n"
}

// ranIn is what a script comes to, line by line, by the calls that the lines stand for.
func ranIn(c impl.Cluster, text string) impl.ScriptResult {
	if code := impl.ClusterFault(c); code != impl.OK {
		return impl.ScriptResult{Code: code}
	}
	lines := linesIn(text)
	if len(text) > 1200 || len(lines) > 60 {
		return impl.ScriptResult{Code: impl.ErrMany}
	}
	said := ""
	for _, line := range lines {
		step := stepIn(c, line)
		said += heardOf(step)
		if step.Code == impl.OK {
			c = step.Cluster
		}
	}
	return impl.ScriptResult{Cluster: c, Said: said}
}

func wantRan(t *testing.T, c impl.Cluster, text string) impl.ScriptResult {
	t.Helper()
	got := impl.RunScript(c, text)
	wantScript(t, fmt.Sprintf("%q", text), got, ranIn(c, text))
	return got
}

func wantScriptCode(t *testing.T, c impl.Cluster, text string, code int64) {
	t.Helper()
	name := fmt.Sprintf("a script of %d bytes", len(text))
	wantScript(t, name, impl.RunScript(c, text), impl.ScriptResult{Code: code})
}

// wantSaid asks for the whole answer of a script that has no code itself.
func wantSaid(t *testing.T, c impl.Cluster, text string, then impl.Cluster, said string) {
	t.Helper()
	wantScript(t, fmt.Sprintf("%q", text), impl.RunScript(c, text), impl.ScriptResult{Cluster: then, Said: said})
}

func TestScriptByHand(t *testing.T) {
	if impl.MaxScript != 1200 || impl.MaxLines != 60 {
		t.Errorf("MaxScript is %d, MaxLines is %d", impl.MaxScript, impl.MaxLines)
	}
	text := "ask 0 1 1 create 1 3\nask 0 1 2 write 1 2 9\nrun 4\nanswers\nwink\nask 1 1 3 delete 1\nshow\n"
	got := wantRan(t, impl.NewCluster(3).Cluster, text)
	if got.Said != "ok\nok\nok\nvol 1 3 2:9\n! 5\n! 10\nnode 0 0 normal 2 2\nnode 1 0 normal 2 2\nnode 2 0 normal 2 2\nmails 4 2\n" {
		t.Errorf("got %q", got.Said)
	}
	text = "ask 0 1 1 create 1 3\ntake 0\n  \ntake 1\ncrash 0\nlose 7\nshow\ntimeout 2\nkeep 0\n\nshow"
	got = wantRan(t, impl.NewCluster(3).Cluster, text)
	want := "ok\nok\nok\nok\n! 3\nnode 0 0 normal 1 0\nnode 1 0 normal 1 0\nnode 2 0 normal 0 0\nmails 1 1\nok\nok\nnode 0 0 normal 1 0\nnode 1 0 normal 1 0\nnode 2 1 changing 0 0\nmails 3 1\n"
	if got.Said != want {
		t.Errorf("got %q", got.Said)
	}
	text = "ask 0 1 1 create 7 2\nask 0 1 2 create 8 2\nask 0 1 3 write 7 15 255\nask 0 1 4 snap 7 3\nask 0 1 5 write 7 0 1\nask 0 1 6 discard 7 15\nask 0 1 7 delete 8\nask 0 1 8 read 3 15\nsettle\nanswers\nask 0 1 9 delete 3\nask 0 1 10 delete 7\nsettle\nanswers\n"
	got = wantRan(t, impl.NewCluster(1).Cluster, text)
	if got.Said != strings.Repeat("ok\n", 9)+"vol 3 2 15:255\nvol 7 2 0:1\nok\nok\nok\n" {
		t.Errorf("got %q", got.Said)
	}
}

// The fault of the cluster is told ahead of a text that is too long or has too many lines.
func TestScriptTellsTheClusterFaultFirst(t *testing.T) {
	texts := []string{"", "\n", "show", "show\n", "wink\n", strings.Repeat(" ", 1200), strings.Repeat(" ", 1201), strings.Repeat("\n", 60), strings.Repeat("\n", 61), strings.Repeat("show\n", 400)}
	for _, b := range clusterBreaks() {
		c := brokenBy(b)
		for _, text := range texts {
			wantScriptCode(t, c, text, b.code)
		}
	}
	for _, text := range texts {
		wantScriptCode(t, impl.Cluster{Nodes: []impl.Replica{}}, text, impl.ErrMany)
	}
}

// What a line has does not count: each byte does, also those of blanks, line feeds and characters of several bytes.
func TestLengthOfAScript(t *testing.T) {
	c := toldCluster()
	for _, part := range []string{" ", "x", "\x00", "\xff", "0"} {
		most := strings.Repeat(part, 1200)
		wantRan(t, c, most)
		wantRan(t, c, most[1:])
		wantRan(t, c, most[1:]+"\n")
		wantScriptCode(t, c, most+part, impl.ErrMany)
		wantScriptCode(t, c, most+"\n", impl.ErrMany)
		wantScriptCode(t, c, "\n"+most, impl.ErrMany)
		wantScriptCode(t, c, strings.Repeat(part, 100000), impl.ErrMany)
	}
	wantSaid(t, c, strings.Repeat(" ", 1200), c, "")
	wantSaid(t, c, strings.Repeat("x", 1200), c, "! 5\n")
	wantSaid(t, c, strings.Repeat(" ", 1194)+"beat 0", impl.BeatAt(c, 0).Cluster, "ok\n")
	wantScriptCode(t, c, strings.Repeat(" ", 1195)+"beat 0", impl.ErrMany)
	wantSaid(t, c, strings.Repeat("ä", 600), c, "! 5\n")
	wantScriptCode(t, c, strings.Repeat("ä", 600)+"x", impl.ErrMany)
	wantScriptCode(t, c, strings.Repeat("ä", 1000), impl.ErrMany)
	line := strings.Repeat(" ", 15) + "show\n"
	wantRan(t, c, strings.Repeat(line, 60))
	wantScriptCode(t, c, " "+strings.Repeat(line, 60), impl.ErrMany)
	wantScriptCode(t, c, strings.Repeat(line, 60)+" ", impl.ErrMany)
}

// Lines count as they stand: those that say nothing, and those that cannot be read.
func TestLinesOfAScript(t *testing.T) {
	c := toldCluster()
	for _, line := range []string{"", " ", "show", "wink", "beat 0", "settle", "\r"} {
		most := strings.Repeat(line+"\n", 59)
		wantRan(t, c, most)
		wantRan(t, c, most+line)
		wantRan(t, c, most+line+"\n")
		wantScriptCode(t, c, most+line+"\n"+" ", impl.ErrMany)
		wantScriptCode(t, c, most+line+"\n"+"x", impl.ErrMany)
		wantScriptCode(t, c, most+line+"\n"+line+"\n", impl.ErrMany)
		wantScriptCode(t, c, most+line+"\n\n", impl.ErrMany)
		wantScriptCode(t, c, most+line+"\n"+"show", impl.ErrMany)
		wantScriptCode(t, c, "\n"+most+line+"\n", impl.ErrMany)
		if line != "" {
			wantScriptCode(t, c, most+line+"\n"+line, impl.ErrMany)
		}
	}
	wantSaid(t, c, strings.Repeat("\n", 60), c, "")
	wantScriptCode(t, c, strings.Repeat("\n", 61), impl.ErrMany)
	wantScriptCode(t, c, strings.Repeat("\n", 60)+" ", impl.ErrMany)
	wantScriptCode(t, c, strings.Repeat("\n", 1200), impl.ErrMany)
	wantSaid(t, c, strings.Repeat("\n", 59)+"show", c, shownOf(c))
	wantSaid(t, c, strings.Repeat("\n", 59)+"show\n", c, shownOf(c))
	wantSaid(t, c, "show\n"+strings.Repeat("\n", 59), c, shownOf(c))
	wantSaid(t, c, strings.Repeat("show\n", 60), c, strings.Repeat(shownOf(c), 60))
	wantSaid(t, c, strings.Repeat("x\n", 59)+"x", c, strings.Repeat("! 5\n", 60))
}

func TestScriptsThatSayNothing(t *testing.T) {
	x := &dice{state: 1621}
	list := append(handMadeClusters(), toldCluster(), impl.NewCluster(1).Cluster)
	for round := range int64(40) {
		list = append(list, madeCluster(x, 1+round%5))
	}
	for _, c := range list {
		for _, text := range []string{"", "\n", "\n\n\n", " ", "   \n", "\n ", " \n  \n\n   \n", strings.Repeat("\n", 60)} {
			wantSaid(t, c, text, c, "")
		}
	}
	c := impl.NewCluster(3).Cluster
	wantSaid(t, c, "answers", c, "")
	wantSaid(t, c, "answers\nanswers\n\nanswers\n", c, "")
}

// Each way a line can end, and what is said of it: of a text that ends with a line feed nothing is added, of no text nothing is said.
func TestWhatIsSaidOfALine(t *testing.T) {
	c := toldCluster()
	for _, line := range eachCommand() {
		step := stepIn(c, line)
		for _, text := range []string{line, line + "\n", "\n" + line, line + "\n\n", "  " + line + "  \n \n"} {
			wantSaid(t, c, text, step.Cluster, heardOf(step))
		}
		wantSaid(t, c, line+"\r\n", c, "! 5\n")
		wantSaid(t, c, line+"\x00", c, "! 5\n")
		wantSaid(t, c, "wink\n"+line+"\nwink", step.Cluster, "! 5\n"+heardOf(step)+"! 5\n")
	}
	wantSaid(t, c, "answers\nshow", c, "vol 1 3 2:9\n"+shownOf(c))
	wantSaid(t, c, "answers\nbeat 0", impl.BeatAt(c, 0).Cluster, "vol 1 3 2:9\nok\n")
	for _, l := range codedLines() {
		want := fmt.Sprintf("! %d\n", l.code)
		wantSaid(t, l.cluster, l.line, l.cluster, want)
		wantSaid(t, l.cluster, l.line+"\n", l.cluster, want)
		wantSaid(t, l.cluster, l.line+"\n"+l.line+"\n\n"+l.line, l.cluster, want+want+want)
	}
}

// A line with a code leaves the cluster as it was, and the lines behind it go on from there.
func TestScriptGoesOnBehindACode(t *testing.T) {
	for _, l := range codedLines() {
		for _, first := range []string{"", "beat 0\n", "settle\n", "run 2\n", "wink\n"} {
			for _, behind := range []string{"", "show", "beat 0\nshow\n", "crash 0\ntimeout 1\nsettle\nshow\n"} {
				got := wantRan(t, l.cluster, first+"take 999\n"+behind)
				without := impl.RunScript(l.cluster, first+behind)
				if !sameCluster(got.Cluster, without.Cluster) || strings.Replace(got.Said, "! 3\n", "", 1) != without.Said {
					t.Fatalf("%q: got %v, want %v", first+behind, got, without)
				}
			}
		}
	}
	c := impl.NewCluster(3).Cluster
	asked := impl.AskAt(c, 0, entryOf(1, 1, opOf(impl.OpDelete, 7, 0, 0))).Cluster
	wantSaid(t, c, "ask 1 1 1 delete 7\nask 0 1 1 delete 100\nask 0 1 1 delete 7\ntake 2\nask 0 1 1 delete 7 \n delete 7", impl.AskAt(asked, 0, entryOf(1, 1, opOf(impl.OpDelete, 7, 0, 0))).Cluster, "! 10\n! 3\nok\n! 3\nok\n! 5\n")
}

// Other ends of lines are none: just the byte 10 ends one.
func TestOtherEndsOfLines(t *testing.T) {
	c := toldCluster()
	for _, end := range []string{"\r", "\v", "\f", "\x00", "\u0085", "\u2028", "\u2029", ";", "\\n", "\x8a"} {
		wantSaid(t, c, "beat 0"+end+"beat 0", c, "! 5\n")
		wantSaid(t, c, "beat 0"+end, c, "! 5\n")
		wantSaid(t, c, "beat 0"+end+"\nshow", c, "! 5\n"+shownOf(c))
	}
	wantSaid(t, c, "beat\n0", c, "! 5\n! 5\n")
	wantSaid(t, c, "beat\n0\nbeat 0", impl.BeatAt(c, 0).Cluster, "! 5\n! 5\nok\n")
}

// Texts of any bytes, to clusters with faults and without.
func TestScriptsOfAnyText(t *testing.T) {
	x := &dice{state: 1622}
	codes, lines := map[int64]int{}, 0
	for range 1500 {
		c := likelyCluster(x, 1+x.upTo(5))
		text := anyText(x, []int64{5, 60, 200, 1300, 2400}[x.upTo(5)])
		if x.upTo(3) == 0 {
			text = strings.Join(strings.Fields(text), "\n")
		}
		codes[wantRan(t, c, text).Code]++
		for _, line := range append(linesIn(text), text) {
			wantStep(t, c, line)
			lines++
		}
		if x.upTo(4) == 0 {
			anyEnds(x, c)
			codes[wantRan(t, c, text).Code]++
			wantStep(t, c, text)
		}
	}
	if codes[impl.OK] < 500 || codes[impl.ErrMany] < 200 || codes[impl.ErrRange] < 20 || codes[impl.ErrForm] < 20 || lines < 5000 {
		t.Errorf("codes %v, %d lines", codes, lines)
	}
}

// What can take longest ends.
func TestTheLongestScripts(t *testing.T) {
	for _, c := range []impl.Cluster{evenCluster(5, 6, 40), lateCluster(40, true), handMadeClusters()[1]} {
		got := impl.RunScript(c, strings.Repeat("run 120\n", 60))
		then := c
		for range 60 {
			then = impl.RunCluster(then, 120).Cluster
		}
		wantScript(t, "7200 rounds", got, impl.ScriptResult{Cluster: then, Said: strings.Repeat("ok\n", 60)})
		wantRan(t, c, strings.Repeat("settle\nanswers\nshow\n", 20))
	}
	long := strings.Repeat("ask 0 1 1 write 1 2 9 ", 100000)
	wantNoLine(t, long)
	wantNoLine(t, strings.ReplaceAll(long, " ", ""))
	wantNoLine(t, strings.ReplaceAll(long, " ", "\n"))
	wantScriptCode(t, toldCluster(), strings.ReplaceAll(long, " ", "\n"), impl.ErrMany)
	if words := impl.WordsOf(long).Words; !slices.Equal(words, strings.Fields(long)) {
		t.Errorf("%d words", len(words))
	}
}
