package tests

import (
	"runtime"
	"slices"
	"strconv"
	"strings"
	"sync"
	"testing"
	"time"

	"loop.example/fugleman/impl"
)

func TestBoxLimits(t *testing.T) {
	if impl.TextMax != 150 || impl.StatusLost != 123 || impl.StatusFull != 124 || impl.StatusBad != 125 || impl.StatusCut != 126 {
		t.Error("limits of boxes")
	}
}

// guardedBox is a copy of a box with room behind its lists, and a check that nothing was written there.
func guardedBox(t *testing.T, b impl.Box) (impl.Box, func(what string)) {
	t.Helper()
	files, filesUntouched := guarded(t, b.Files, impl.File{Name: "mark", Text: "5"})
	vars, varsUntouched := guarded(t, b.Vars, impl.Var{Name: "mark", Text: "5"})
	return impl.Box{Files: files, Vars: vars}, func(what string) {
		t.Helper()
		filesUntouched(what)
		varsUntouched(what)
	}
}

// checkBox holds what commands do against what they must do, and asks what holds of all of them (P21).
func checkBox(t *testing.T, b impl.Box, last int, row string) (impl.Box, string, int) {
	t.Helper()
	given, untouched := guardedBox(t, b)
	box, told, status := impl.BoxRun(given, last, row)
	untouched("BoxRun of " + row)
	wantBox, wantTold, wantStatus := expectRun(b, last, row)
	if !sameBox(box, wantBox) || told != wantTold || status != wantStatus {
		t.Fatalf("%q with %d in %q: %q %q %d, not %q %q %d", row, last, b, box, told, status, wantBox, wantTold, wantStatus)
	}
	if status == -1 {
		return box, told, status
	}
	if !impl.BoxOk(box) || status < 0 || status > impl.StatusMax || len(told) > impl.TextMax {
		t.Fatalf("%q in %q: not ok: %q %q %d", row, b, box, told, status)
	}
	if (status == impl.StatusFull || status == impl.StatusBad) && (!sameBox(box, b) || told != "") {
		t.Fatalf("%q in %q ends with %d, but is not undone: %q %q", row, b, status, box, told)
	}
	return box, told, status
}

// askBox asks what commands tell, how they end, and what is changed (see changed).
func askBox(t *testing.T, b impl.Box, row string, told string, status int, changes ...string) impl.Box {
	t.Helper()
	box, gotTold, gotStatus := checkBox(t, b, 7, row)
	if want := changed(b, changes...); gotTold != told || gotStatus != status || !sameBox(box, want) {
		t.Errorf("%q in %q: %q %q %d, not %q %q %d", row, b, box, gotTold, gotStatus, want, told, status)
	}
	return box
}

// shop is a box with some of all.
func shop() impl.Box {
	return stock("a.log=one\ntwo\n", "e=", "f=b a\na\n\nb a", "g=10\n9\n", "$e=", "$s=*", "$w=two words", "$x=3")
}

func TestBoxYesAndNo(t *testing.T) {
	b := shop()
	for row, status := range map[string]int{"true": 0, ":": 0, "false": 1, "true false": 0, ": 'a b' $x": 0, "false true *": 1, "true | false": 1, "false | true": 0, "echo a | true": 0, "echo a | false": 1} {
		askBox(t, b, row, "", status)
	}
	for _, row := range []string{"none", "''", "Echo", "ls", "True", "echo1", "'echo a'", "\"echo \"", "a.log", "./echo", "-f", "=", "=1", "1=2", "'x'=1", "x\\=1", "\"x\"=1", "x\"=\"1", "toolong=1", "a-b=1", "\\x=1", "$w=1", "${x}=1", "*", "$s", "[ a = a", "exit 3", "none $((1))"} {
		askBox(t, b, row, "", 127)
	}
	askBox(t, b, "none | echo a", "a\n", 0)
	askBox(t, b, "echo a | none", "", 127)
	askBox(t, b, "none > n", "", 127, "n=")
	askBox(t, b, "$w", "", 127)
	askBox(t, stock("$c=echo a  b"), "$c", "a b\n", 0)
	askBox(t, stock("$c=echo a  b"), "$c $c", "a b echo a b\n", 0)
	askBox(t, stock("$c=echo a  b"), "\"$c\"", "", 127)
	askBox(t, stock("echo=x"), "*", "\n", 0)
	askBox(t, stock("echo=x", "f=y"), "*", "f\n", 0)
}

func TestBoxEcho(t *testing.T) {
	b := shop()
	for row, told := range map[string]string{
		"echo": "\n", "echo ''": "\n", "echo '' ''": " \n", "echo a": "a\n", "echo a b c": "a b c\n", "echo 'a  b' c": "a  b c\n", "echo -n a": "-n a\n", "echo \\n": "n\n", "echo '\\n'": "\\n\n",
		"echo $w": "two words\n", "echo \"$w\"": "two words\n", "echo $e$none": "\n", "echo $?": "7\n", "echo $? $((x+1)) ${x}4": "7 4 34\n", "echo *": "a.log e f g\n", "echo '*'": "*\n", "echo $s \"$s\"": "a.log e f g *\n", "echo *.log z*": "a.log z*\n",
		"echo x=1": "x=1\n", "echo echo": "echo\n", "'echo' a": "a\n", "e\"ch\"o a": "a\n", "echo a | echo b": "b\n", "echo a | echo": "\n", "echo $? | echo $?": "7\n",
	} {
		askBox(t, b, row, told, 0)
	}
	// Of the one that a command ends with, no other one of the row knows.
	askBox(t, b, "false | echo $?", "7\n", 0)
}

func TestBoxCat(t *testing.T) {
	b := shop()
	f := "b a\na\n\nb a"
	askBox(t, b, "cat", "", 0)
	askBox(t, b, "cat e", "", 0)
	askBox(t, b, "cat f", f, 0)
	askBox(t, b, "cat f a.log", f+"one\ntwo\n", 0)
	askBox(t, b, "cat f f", f+f, 0)
	askBox(t, b, "cat g none f", "10\n9\n"+f, 1)
	askBox(t, b, "cat none", "", 1)
	askBox(t, b, "cat none e", "", 1)
	askBox(t, b, "cat ''", "", 1)
	askBox(t, b, "cat 'no file' 'a b' \\*", "", 1)
	askBox(t, b, "cat -", "", 1)
	askBox(t, b, "cat *", "one\ntwo\n"+f+"10\n9\n", 0)
	askBox(t, b, "cat < f", f, 0)
	askBox(t, b, "cat g < f", "10\n9\n", 0)
	askBox(t, b, "cat none < f", "", 1)
	askBox(t, b, "echo a | cat", "a\n", 0)
	askBox(t, b, "echo a | cat | cat | cat", "a\n", 0)
	askBox(t, b, "echo a | cat g", "10\n9\n", 0)
	askBox(t, b, "echo a | cat < g", "10\n9\n", 0)
	askBox(t, b, "cat f | cat", f, 0)
	askBox(t, b, "cat none | cat", "", 0)
	askBox(t, b, "cat g none | cat", "10\n9\n", 0)
}

func TestBoxTest(t *testing.T) {
	b := shop()
	for _, row := range []string{
		"test a", "test 0", "test -f", "test =", "test ' '", "test $x", "test -z", "test \"$w\"", "test '*'",
		"test -f f", "test -f e", "test -f a.log", "test -f *.log", "test -z ''", "test -z \"$e\"", "test -z \"$none\"", "test -n a", "test -n ' '", "test -n -n",
		"test a = a", "test '' = ''", "test 'a b' = \"a b\"", "test = = =", "test a != b", "test a != ''", "test 1 != 01", "test $x = 3",
		"test 1 -eq 1", "test 0 -eq 0", "test -5 -eq -5", "test 999999 -eq 999999", "test -999999 -lt 999999", "test 9 -lt 10", "test -1 -lt 0", "test -2 -lt -1", "test 10 -gt 9", "test 0 -gt -1", "test $x -gt 2", "test $x -lt $((x+1))", "test $? -eq 7",
	} {
		askBox(t, b, row, "", 0)
	}
	for _, row := range []string{
		"test ''", "test \"$none\"", "test -f none", "test -f ''", "test -f 'a b'", "test -f \\*", "test -z a", "test -z ' '", "test -z -z", "test -n ''", "test -n \"$e\"",
		"test a = b", "test a = A", "test a = ''", "test a != a", "test '' != ''", "test 1 = 01", "test 1 -eq 2", "test 1 -eq -1", "test 1 -lt 1", "test 2 -lt 1", "test 1 -gt 1", "test 1 -gt 2", "test -1 -gt 0",
	} {
		askBox(t, b, row, "", 1)
	}
	for _, row := range []string{
		"test", "test $none", "test $e $none", "test a b", "test ! a", "test -e f", "test -d f", "test -F f", "test f -f", "test = a", "test a =", "test '' ''", "test a b c", "test a == a", "test 1 -le 2", "test 1 -ne 2", "test 1 eq 1", "test 1 '' 1", "test 1 - 1",
		"test a -eq a", "test 1 -eq a", "test a -lt 1", "test '' -eq ''", "test 01 -eq 1", "test 1 -eq 01", "test -0 -eq 0", "test 0 -eq -0", "test +1 -eq 1", "test ' 1' -eq 1", "test 1000000 -gt 1", "test 1 -lt 1000000", "test -1000000 -lt 1", "test --1 -eq 1", "test - -eq 0", "test 1.0 -eq 1", "test 1 -gt b",
		"test a = a b", "test -f f f f", "test 1 -eq 1 1", "test a b c d e", "test *",
	} {
		askBox(t, b, row, "", 2)
	}
	// What the command itself makes there is there when it asks.
	askBox(t, b, "test -f n > n", "", 0, "n=")
	askBox(t, b, "test -f n >> n", "", 0, "n=")
	askBox(t, b, "test -f n", "", 1)
	askBox(t, b, "echo > n | test -f n", "", 0, "n=\n")
	askBox(t, b, "rm f | test -f f", "", 1, "-f")
}

func TestBoxRm(t *testing.T) {
	b := shop()
	askBox(t, b, "rm f", "", 0, "-f")
	askBox(t, b, "rm e f g a.log", "", 0, "-e", "-f", "-g", "-a.log")
	askBox(t, b, "rm *", "", 0, "-e", "-f", "-g", "-a.log")
	askBox(t, b, "rm e none f", "", 1, "-e", "-f")
	askBox(t, b, "rm none", "", 1)
	askBox(t, b, "rm ''", "", 1)
	askBox(t, b, "rm '*' 'a b'", "", 1)
	askBox(t, b, "rm f f", "", 1, "-f")
	askBox(t, b, "rm", "", 2)
	askBox(t, b, "rm $none", "", 2)
	askBox(t, b, "echo f | rm", "", 2)
	askBox(t, b, "rm x", "", 1)
	askBox(t, impl.Box{}, "rm *", "", 1)
	askBox(t, b, "rm f | rm f", "", 1, "-f")
	askBox(t, b, "rm f | echo * | cat", "a.log e g\n", 0, "-f")
}

func TestBoxCarry(t *testing.T) {
	b := shop()
	f := "b a\na\n\nb a"
	askBox(t, b, "cp f n", "", 0, "n="+f)
	askBox(t, b, "cp f g", "", 0, "g="+f)
	askBox(t, b, "cp e f", "", 0, "f=")
	askBox(t, b, "cp f f", "", 0)
	askBox(t, b, "mv f n", "", 0, "n="+f, "-f")
	askBox(t, b, "mv f g", "", 0, "g="+f, "-f")
	askBox(t, b, "mv e z", "", 0, "z=", "-e")
	askBox(t, b, "mv f 0", "", 0, "0="+f, "-f")
	askBox(t, b, "mv f f", "", 0)
	for _, name := range []string{"cp", "mv"} {
		for _, words := range []string{"none n", "none f", "none none", "'' n", "f ''", "f 'a b'", "f \\*", "f =", "none ''", "f aaaaaaaaaaaaaaaaaaaaa", "f \"$w\"", "x n"} {
			askBox(t, b, name+" "+words, "", 1)
		}
		for _, words := range []string{"", " f", " none", " f g e", " none g e", " *", " $none", " f $none", " f $w", " f g 'a b' c"} {
			askBox(t, b, name+words, "", 2)
		}
		long := strings.Repeat("n", 20)
		box := askBox(t, b, name+" f "+long, "", 0, append([]string{long + "=" + f}, map[string][]string{"mv": {"-f"}}[name]...)...)
		askBox(t, box, "cat "+long, f, 0)
		askBox(t, b, "echo a | "+name+" none n", "", 1)
	}
}

func TestBoxRead(t *testing.T) {
	b := shop()
	askBox(t, b, "echo a | read y", "", 0, "$y=a")
	askBox(t, b, "echo a | read x", "", 0, "$x=a")
	askBox(t, b, "read y < f", "", 0, "$y=b a")
	askBox(t, b, "cat f | read y", "", 0, "$y=b a")
	askBox(t, b, "read y < g", "", 0, "$y=10")
	askBox(t, b, "echo | read y", "", 0, "$y=")
	askBox(t, b, "echo | read x", "", 0, "$x=")
	askBox(t, b, "echo ' a  b ' | read y", "", 0, "$y= a  b ")
	askBox(t, b, "echo '\\n$x*' | read y", "", 0, "$y=\\n$x*")
	askBox(t, stock("f=a"), "read y < f", "", 0, "$y=a")
	askBox(t, stock("f=\na\n"), "read y < f", "", 0, "$y=")
	askBox(t, b, "echo a | read y | echo $y", "a\n", 0, "$y=a")
	askBox(t, b, "echo x | read $w", "", 2)
	for _, row := range []string{"read y", "read y < e", "true | read y", "cat e | read x", "echo a > n | read y", "none | read y", "echo a | read y < e"} {
		changes := map[string][]string{"echo a > n | read y": {"n=a\n"}}[row]
		askBox(t, b, row, "", 1, changes...)
	}
	for _, row := range []string{"read", "read ''", "read 1", "read 1a", "read a-b", "read toolong", "read x y", "read 'x y'", "read *", "read y z < f", "read < f", "read $none < f"} {
		askBox(t, b, row, "", 2)
		askBox(t, b, "echo a | "+row, "", 2)
	}
	askBox(t, b, "echo a | read abcdef", "", 0, "$abcdef=a")
	askBox(t, b, "echo a | read _", "", 0, "$_=a")
	askBox(t, b, "read y < f > n", "", 0, "$y=b a", "n=")
}

func TestBoxLines(t *testing.T) {
	b := shop()
	for row, told := range map[string]string{
		"wc": "0\n", "wc e": "0\n", "wc f": "4\n", "wc g": "2\n", "wc < f": "4\n", "cat f | wc": "4\n", "echo | wc": "1\n", "echo a | wc f": "4\n", "echo a | wc < g": "2\n", "cat g f | wc": "6\n", "cat f g | wc": "5\n",
		"sort": "", "sort e": "", "sort f": "\na\nb a\nb a\n", "sort g": "10\n9\n", "sort a.log": "one\ntwo\n", "cat f | sort": "\na\nb a\nb a\n", "sort < f": "\na\nb a\nb a\n", "echo b a | sort": "b a\n", "echo a | sort g": "10\n9\n", "cat g a.log | sort": "10\n9\none\ntwo\n",
		"grep a f": "b a\na\nb a\n", "grep 'b a' f": "b a\nb a\n", "grep '' f": "b a\na\n\nb a\n", "grep b < f": "b a\nb a\n", "cat f | grep b": "b a\nb a\n", "grep o a.log": "one\ntwo\n", "grep tw a.log": "two\n", "echo 'a*' | grep \\*": "a*\n", "echo | grep ''": "\n", "echo a | grep 9 g": "9\n",
		"head 0 f": "", "head 1 f": "b a\n", "head 2 f": "b a\na\n", "head 3 f": "b a\na\n\n", "head 4 f": "b a\na\n\nb a\n", "head 5 f": "b a\na\n\nb a\n", "head 999999 f": "b a\na\n\nb a\n", "head 1": "", "head 1 e": "", "head 0": "", "head 1 < g": "10\n", "cat g | head 1": "10\n", "head $x g": "10\n9\n", "echo a | head 1 g": "10\n",
	} {
		askBox(t, b, row, told, 0)
	}
	for _, row := range []string{
		"wc none", "wc ''", "wc 'a b'", "sort none", "sort ''", "grep a none", "grep none none", "head 1 none", "head x none", "head '' ''", "wc none < f", "echo a | sort none", "echo a | grep a none",
		"grep z f", "grep B f", "grep a e", "grep '' e", "grep ''", "grep a", "grep 'a b' f", "grep ^ f", "grep . f", "echo a | grep b", "echo a | grep a e", "grep f", "grep \\* f",
	} {
		askBox(t, b, row, "", 1)
	}
	for _, row := range []string{
		"wc f g", "wc none none", "wc *", "sort f g", "sort none f", "sort -r f", "grep", "grep $none", "grep a f g", "grep a none none", "grep *", "head", "head 1 f g", "head 1 none none", "head f", "head x", "head x f", "head '' f", "head -1 f", "head 01 f", "head 1000000 f", "head +1 f", "head '1 ' f", "head 1.0 f", "head -0 f", "cat f | head x", "echo a | wc f g", "head $none f",
	} {
		askBox(t, b, row, "", 2)
	}
	askBox(t, b, "wc $none", "0\n", 0)
	askBox(t, stock("f=a\n\n\n"), "wc f", "3\n", 0)
	askBox(t, stock("f=\n"), "wc f", "1\n", 0)
	askBox(t, stock("f=a"), "wc f", "1\n", 0)
	askBox(t, stock("f=a\nb"), "wc f", "2\n", 0)
	askBox(t, stock("f=b\nB\n_\n1\n~\n \na b\na\n-\n"), "sort f", " \n-\n1\nB\n_\na\na b\nb\n~\n", 0)
}

func TestBoxSets(t *testing.T) {
	b := shop()
	askBox(t, b, "y=1", "", 0, "$y=1")
	askBox(t, b, "x=1", "", 0, "$x=1")
	askBox(t, b, "x=", "", 0, "$x=")
	askBox(t, b, "y=", "", 0, "$y=")
	askBox(t, b, "y=1 z=2", "", 0, "$y=1", "$z=2")
	askBox(t, b, "y=1 z=$y$y y=$z", "", 0, "$y=11", "$z=11")
	askBox(t, b, "x=$((x+1)) x=$((x*x))", "", 0, "$x=16")
	askBox(t, b, "y=1 echo $y", "1\n", 0, "$y=1")
	askBox(t, b, "y=1 y=2 echo $y y=3", "2 y=3\n", 0, "$y=2")
	askBox(t, b, "y=1 none", "", 127, "$y=1")
	askBox(t, b, "y=1 false", "", 1, "$y=1")
	askBox(t, b, "y=1 | echo $y", "1\n", 0, "$y=1")
	askBox(t, b, "echo a | y=1", "", 0, "$y=1")
	askBox(t, b, "y=1 $none", "", 0, "$y=1")
	askBox(t, b, "$none y=1", "", 127)
	askBox(t, b, "'' y=1", "", 127)
	askBox(t, b, "echo y=1", "y=1\n", 0)
	askBox(t, b, "$none echo a", "a\n", 0)
	for word, text := range map[string]string{
		"'a b'": "a b", "\"$w\"": "two words", "$w": "two words", "$w$w": "two wordstwo words", "*": "*", "a*": "a*", "$s": "*", "'*'": "*", "$e": "", "''": "", "\"\"": "", "$none": "", "$?": "7", "$((x+1))": "4", "a'b'\"c\"\\d": "abcd", "=": "=", "=a": "=a", "z=1": "z=1", "#": "#", "#a": "#a", "#'b c'$x": "#b c3", "##": "##", "\\#": "#", "'#'": "#", "a#": "a#", "~": "~", "{": "{", "!": "!", "if": "if", "\\\\": "\\", "'$x'": "$x", "\\ ": " ",
	} {
		askBox(t, b, "y="+word, "", 0, "$y="+text)
		askBox(t, b, "y="+word+" echo \"$y\"", text+"\n", 0, "$y="+text)
	}
	// Routes are no words: what is set may stand behind them.
	askBox(t, b, "> n y=1 echo $y", "", 0, "$y=1", "n=1\n")
	askBox(t, b, "> n y=1", "", 0, "$y=1", "n=")
	askBox(t, b, "y=n > $y", "", 0, "$y=n", "n=")
	askBox(t, b, "> $y y=n", "", 0, "$y=n", "n=")
	askBox(t, b, "y=1 < none z=2 echo", "", 1, "$y=1", "$z=2")
	// Each by itself, as what is behind it sees it.
	for _, name := range []string{"a", "A", "_", "_1", "abcdef", "ABC_12"} {
		askBox(t, b, name+"=1", "", 0, "$"+name+"=1")
	}
}

func TestBoxRoutes(t *testing.T) {
	b := shop()
	f := "b a\na\n\nb a"
	askBox(t, b, "echo a > n", "", 0, "n=a\n")
	askBox(t, b, "echo a > f", "", 0, "f=a\n")
	askBox(t, b, "echo a >> n", "", 0, "n=a\n")
	askBox(t, b, "echo a >> f", "", 0, "f="+f+"a\n")
	askBox(t, b, "> n", "", 0, "n=")
	askBox(t, b, "> f", "", 0, "f=")
	askBox(t, b, ">> n", "", 0, "n=")
	askBox(t, b, ">> f", "", 0)
	askBox(t, b, "< f", "", 0)
	askBox(t, b, "< none", "", 1)
	askBox(t, b, "< f > n", "", 0, "n=")
	askBox(t, b, "> n echo a", "", 0, "n=a\n")
	askBox(t, b, "echo > n a b", "", 0, "n=a b\n")
	askBox(t, b, "$none > n", "", 0, "n=")
	askBox(t, b, "false > n", "", 1, "n=")
	askBox(t, b, "echo a | > n", "", 0, "n=")
	askBox(t, b, "echo a > n | cat", "", 0, "n=a\n")
	askBox(t, b, "echo a > n | cat n", "a\n", 0, "n=a\n")
	askBox(t, b, "cat f none > n", "", 1, "n="+f)
	// Several, in order: all are made, what is told goes to the last one.
	askBox(t, b, "echo a > n > m", "", 0, "n=", "m=a\n")
	askBox(t, b, "echo a > f > g", "", 0, "f=", "g=a\n")
	askBox(t, b, "echo a > f >> g", "", 0, "f=", "g=10\n9\na\n")
	askBox(t, b, "echo a >> f > g", "", 0, "g=a\n")
	askBox(t, b, "echo a >> f >> g", "", 0, "g=10\n9\na\n")
	askBox(t, b, "echo a >> f > f", "", 0, "f=a\n")
	askBox(t, b, "echo a > f >> f", "", 0, "f=a\n")
	askBox(t, b, "cat < f < g", "10\n9\n", 0)
	askBox(t, b, "cat < g < f > n", "", 0, "n="+f)
	askBox(t, b, "> n cat < g", "", 0, "n=10\n9\n")
	askBox(t, b, "cat > n < n", "", 0, "n=")
	askBox(t, b, "cat > f < f", "", 0, "f=")
	askBox(t, b, "cat < f > f", "", 0)
	askBox(t, b, "cat < f >> f", "", 0, "f="+f+f)
	askBox(t, b, "sort < f > f", "", 0, "f=\na\nb a\nb a\n")
	askBox(t, b, "sort f > f", "", 0, "f=")
	askBox(t, b, "cat f >> f", "", 0, "f="+f+f)
	askBox(t, b, "cat < n > n", "", 1)
	// What is told goes there when the command is done, whatever it did to the file.
	askBox(t, b, "rm f > f", "", 0, "f=")
	askBox(t, b, "rm f >> f", "", 0, "f=")
	askBox(t, b, "cp g f > f", "", 0, "f=")
	askBox(t, b, "cp g f >> f", "", 0, "f=10\n9\n")
	askBox(t, b, "mv f n > f", "", 0, "f=", "n=")
	askBox(t, b, "mv f n >> f", "", 0, "f=", "n="+f)
	askBox(t, b, "rm none > f", "", 1, "f=")
	askBox(t, b, "rm * > n", "", 0, "-f", "-g", "-e", "-a.log", "n=")
	// No more is done behind one that cannot be.
	askBox(t, b, "echo a > n < none > m", "", 1, "n=")
	askBox(t, b, "echo a > f < none", "", 1, "f=")
	askBox(t, b, "rm f < none", "", 1)
	askBox(t, b, "y=1 rm f < none", "", 1, "$y=1")
	askBox(t, b, "echo a < none > n", "", 1)
	askBox(t, b, "echo a < none | cat", "", 0)
	askBox(t, b, "echo a | cat < none | wc", "0\n", 0)
	askBox(t, b, "false < none", "", 1)
	askBox(t, b, "none < none", "", 1)
	askBox(t, b, "echo a > n >> ''", "", 1, "n=")
}

func TestBoxRouteWords(t *testing.T) {
	b := changed(shop(), "$n=n", "$l="+strings.Repeat("n", 21))
	for _, sign := range []string{"<", ">", ">>"} {
		for _, word := range []string{"$none", "$e", "$e$none", "''", "\"$e\"", "$w", "\"$w\"", "'a b'", "*", "$s", "\\*", "'*'", "z*", "\"$s\"", "aaaaaaaaaaaaaaaaaaaaa", "$l", "~", "a=b", "=", "f#", "\\ ", "{", "!", "a:"} {
			askBox(t, b, "echo a "+sign+" "+word, "", 1)
			askBox(t, b, "rm f | echo a "+sign+" "+word+" > m", "", 1, "-f")
		}
		// One of all words goes wrong, though the command would not have been done.
		for _, word := range []string{"$((1/0))", "a$((w))", "$((999999+1))", strings.Repeat("$w", 12), strings.Repeat("a", 51)} {
			askBox(t, b, "echo a "+sign+" "+word, "", 125)
			askBox(t, b, "x=1 rm f > m "+sign+" "+word, "", 125)
			askBox(t, b, "echo a < none "+sign+" "+word, "", 1)
		}
	}
	for word, name := range map[string]string{"n": "n", "'n'": "n", "\"$n\"": "n", "$n": "n", "${n}1": "n1", "$x": "3", "$?": "7", "$((x+1))": "4", "z$e": "z", "a-b_c./9": "a-b_c./9", "if": "if", "e*": "e", "*g": "", "-": "-", "nnnnnnnnnnnnnnnnnnnn": "nnnnnnnnnnnnnnnnnnnn", "x": "x"} {
		switch name {
		case "":
			askBox(t, b, "echo a > "+word, "", 1)
		case "-":
			if box, _, status := checkBox(t, b, 7, "echo a > -"); status != 0 || box.Files[0] != (impl.File{Name: "-", Text: "a\n"}) {
				t.Error(box, status)
			}
		default:
			askBox(t, b, "echo a > "+word, "", 0, name+"=a\n")
			askBox(t, b, "echo a >> "+word, "", 0, name+"=a\n")
		}
	}
	// Stars are files as they are by then.
	askBox(t, stock("f=1"), "cat < *", "1", 0)
	askBox(t, stock("f=1"), "echo a > *", "", 0, "f=a\n")
	askBox(t, stock("f=1"), "echo a > g > *", "", 1, "g=")
	askBox(t, stock(), "echo a > g > *", "", 0, "g=a\n")
	askBox(t, stock(), "echo * > g", "", 0, "g=*\n")
	askBox(t, stock("f=1"), "echo * > g", "", 0, "g=f\n")
	askBox(t, stock("f=1"), "echo * > g | echo *", "f g\n", 0, "g=f\n")
	many := stock("a=", "b=", "c=", "d=", "e=", "f=", "$l=* * *")
	askBox(t, many, "cat < $l", "", 125)
	askBox(t, changed(many, "$l=* *"), "cat < $l", "", 1)
}

// filled is a box with so many files and names.
func filled(files int, vars int) impl.Box {
	var entries []string
	for i := range files {
		entries = append(entries, "f"+strconv.Itoa(i)+"=")
	}
	for i := range vars {
		entries = append(entries, "$v"+strconv.Itoa(i)+"=")
	}
	return stock(entries...)
}

func TestP21ManyFiles(t *testing.T) {
	for many := 0; many <= impl.FileMax; many++ {
		b := filled(many, 0)
		full := many == impl.FileMax
		for _, row := range []string{"> n", ">> n", "echo > n", "true > n", "none > n"} {
			if box, _, status := checkBox(t, b, 0, row); (status == impl.StatusFull) != full || len(box.Files) != min(many+1, impl.FileMax) {
				t.Errorf("%d files, %q: %q %d", many, row, box, status)
			}
		}
		if many == 0 {
			continue
		}
		if _, _, status := checkBox(t, b, 0, "cp f0 n"); (status == impl.StatusFull) != full {
			t.Error("cp", many, status)
		}
		for _, row := range []string{"mv f0 n", "cp f0 f0", "mv f0 f0", "> f0", ">> f0", "echo > f0", "rm f0 | > n", "rm f0 | cp f0 n", "mv f0 n | mv n f0", "rm f0", "cat < f0", "x=1", "mv f0 n | > n", "< none > n"} {
			if _, _, status := checkBox(t, b, 0, row); status == impl.StatusFull || status == impl.StatusBad {
				t.Errorf("%d files, %q: %d", many, row, status)
			}
		}
	}
	b := filled(6, 0)
	// The file comes ahead of what would let another one go.
	askBox(t, b, "rm f0 > n", "", 124)
	askBox(t, b, "mv f0 n > f0", "", 124)
	askBox(t, b, "mv f0 n > n", "", 124)
	askBox(t, b, "> f0 > n", "", 124)
	askBox(t, b, "> n < none", "", 124)
	askBox(t, filled(5, 0), "> n > m", "", 124)
	askBox(t, filled(5, 0), "> n | > m", "", 124)
	askBox(t, filled(5, 0), "> n | rm n | > m", "", 0, "m=")
	askBox(t, filled(5, 0), "> n > n >> n", "", 0, "n=")
	askBox(t, filled(5, 0), "mv f0 n > f0", "", 0, "n=", "f0=")
}

func TestP21ManyNames(t *testing.T) {
	for many := 0; many <= impl.VarMax; many++ {
		b := filled(0, many)
		full := many == impl.VarMax
		for _, row := range []string{"n=1", "n=", "n=1 echo a", "echo a | read n", "true | n=1", "echo | read n"} {
			if box, _, status := checkBox(t, b, 0, row); (status == impl.StatusFull) != full || len(box.Vars) != min(many+1, impl.VarMax) {
				t.Errorf("%d names, %q: %q %d", many, row, box, status)
			}
		}
		if many == 0 {
			continue
		}
		for _, row := range []string{"v0=1", "v0=", "echo a | read v0", "v0=1 v0=2 v0=3", "read n", "> n", "echo $n", "echo a | read 1"} {
			if _, _, status := checkBox(t, b, 0, row); status == impl.StatusFull || status == impl.StatusBad {
				t.Errorf("%d names, %q: %d", many, row, status)
			}
		}
	}
	askBox(t, filled(0, 5), "n=1 m=2", "", 124)
	askBox(t, filled(0, 5), "n=1 | m=2", "", 124)
	askBox(t, filled(0, 5), "n=1 echo a | read m", "", 124)
	askBox(t, filled(0, 5), "n=1 n=2 v0=3", "", 0, "$n=2", "$v0=3")
	askBox(t, filled(0, 6), "v0=1 n=1", "", 124)
}

func TestP21LongTexts(t *testing.T) {
	for size := 145; size <= 150; size++ {
		text := strings.Repeat("0123456789", 15)[:size]
		b := stock("f="+text, "g=ab\n", "one=\n", "five=12345")
		askBox(t, b, "cat f", text, 0)
		askBox(t, b, "cat f > n", "", 0, "n="+text)
		askBox(t, b, "cp f n", "", 0, "n="+text)
		for row, more := range map[string]int{"cat f one": 1, "cat one f": 1, "cat f five": 5, "cat f g": 3, "cat f one one one": 3, "sort f": 1, "grep 0 f": 1, "head 1 f": 1} {
			for _, end := range []string{"", " > n", " >> n", " | true", " | cat > n", " > f", " | none"} {
				_, told, status := checkBox(t, b, 0, row+end)
				full := size+more > 150 && end != " > f"
				if full != (status == 124) || end == "" && !full && len(told) != size+more {
					t.Errorf("%d bytes, %q: %q %d", size, row+end, told, status)
				}
			}
		}
		for row, more := range map[string]int{"cat one >> f": 1, "cat five >> f": 5, "cat g >> f": 3, "cat f >> one": 1, "cat f >> five": 5, "echo abc >> f": 4, "echo >> f": 1} {
			if _, _, status := checkBox(t, b, 0, row); (status == 124) != (size+more > 150) {
				t.Errorf("%d bytes, %q: %d", size, row, status)
			}
		}
		askBox(t, b, ">> f", "", 0)
		askBox(t, b, "true >> f", "", 0)
	}
	word := "$x$x$x$x" // 48 bytes
	b := stock("$x=abcdefghijkl")
	for row, size := range map[string]int{"echo " + word + " " + word + " " + word: 147, "echo " + word + " " + word + " " + word + " a": 149, "echo " + word + " " + word + " " + word + " ab": 150, "echo " + word + " " + word + " " + word + " abc": 151, "echo " + word + " " + word + " " + word + " abcd": 152} {
		_, told, status := checkBox(t, b, 0, row)
		if size <= 150 && (len(told) != size || status != 0) || size > 150 && status != 124 {
			t.Errorf("%q: %d bytes, %d", row, len(told), status)
		}
		checkBox(t, b, 0, row+" > f")
		checkBox(t, b, 0, row+" | true")
	}
	// What is told behind 150 bytes in a file that says nothing any more.
	full := stock("f=" + strings.Repeat("x", 150))
	askBox(t, full, "echo a > f", "", 0, "f=a\n")
	askBox(t, full, "cat f > f", "", 0, "f=")
	askBox(t, full, "cat f f > f", "", 0, "f=")
	askBox(t, full, "cat < f > f", "", 0)
	askBox(t, full, "cat f f", "", 124)
	askBox(t, full, "cat f f | true", "", 124)
	askBox(t, full, "cat f >> f", "", 124)
	askBox(t, full, "wc f", "1\n", 0)
	askBox(t, full, "grep y f", "", 1)
	askBox(t, full, "head 0 f", "", 0)
}

// lined is a box with a file of which the first line has so many bytes.
func lined(size int, rest string) impl.Box {
	return stock("f=" + strings.Repeat("x", size) + rest)
}

func TestP21LongLines(t *testing.T) {
	for size := 48; size <= 53; size++ {
		for _, rest := range []string{"", "\n", "\nb", "\n\n"} {
			b := lined(size, rest)
			for _, row := range []string{"read y < f", "cat f | read y", "cat < f | cat | read y"} {
				box, _, status := checkBox(t, b, 0, row)
				if size <= 50 && (status != 0 || box.Vars[0].Text != strings.Repeat("x", size)) || size > 50 && status != 124 {
					t.Errorf("%d: %q %d", size, box, status)
				}
			}
			askBox(t, b, "read 1 < f", "", 2)
			askBox(t, b, "read < f", "", 2)
			// Whoever reads lines for no name may read longer ones.
			askBox(t, b, "sort f | true", "", 0)
			askBox(t, b, "head 1 f", strings.Repeat("x", size)+"\n", 0)
			askBox(t, b, "grep x f", strings.Repeat("x", size)+"\n", 0)
		}
		askBox(t, stock("f=a\n"+strings.Repeat("x", size)+"\n"), "read y < f", "", 0, "$y=a")
	}
}

func TestP21LongFields(t *testing.T) {
	for size := 45; size <= 53; size++ {
		word := strings.Repeat("a", size)
		fine := size <= 50
		b := stock("$l=" + strings.Repeat("b", 40))
		for _, row := range []string{"echo " + word, "true " + word, word, "echo " + word + " > n", "echo ${l}" + word[40:], "'" + word + "'", "\"$l\"" + word[40:]} {
			if _, _, status := checkBox(t, b, 0, row); (status != 125) != fine {
				t.Errorf("%q: %d", row, status)
			}
		}
		for _, row := range []string{"y=" + word, "y='" + word + "'", "y=${l}" + word[40:], "y=\"$l\"" + word[40:], "abcdef=" + word, "y=" + word + " echo a", "l=" + word + " l=$l"} {
			box, _, status := checkBox(t, b, 0, row)
			name, _, _ := strings.Cut(row, "=")
			if fine && (status != 0 || len(keeperOf(box, 0).vars[name]) != size) || !fine && status != 125 {
				t.Errorf("%q: %q %d", row, box, status)
			}
		}
	}
}

func TestP21ManyFields(t *testing.T) {
	for many := 10; many <= 14; many++ {
		fine := many <= impl.FieldMany
		words := strings.Repeat(" a", many)[1:]
		told := strings.Repeat(" a", many-1)[1:] + "\n"
		check := func(row string, b impl.Box) {
			t.Helper()
			_, got, status := checkBox(t, b, 0, row)
			if fine && status == 125 || !fine && status != 125 {
				t.Errorf("%q: %q %d", row, got, status)
			}
			if fine && strings.HasPrefix(row, "echo") && got != told {
				t.Errorf("%q: %q", row, got)
			}
		}
		check("echo"+words[1:], stock())
		check("true"+words[1:], stock())
		check("none"+words[1:], stock())
		check("echo $x", stock("$x="+words[2:]))
		check("$x $y", stock("$x=echo"+words[1:10], "$y="+words[10:]))
		check("x=1 y=2 z=3 echo"+words[1:]+" > n", stock())
		check("echo"+words[1:]+" < f", stock("f="))
		// Empty ones count, words that come to none do not.
		if _, _, status := checkBox(t, stock(), 0, "echo"+strings.Repeat(" ''", many-1)); (status == 125) == fine {
			t.Error(many, status)
		}
		if _, _, status := checkBox(t, stock(), 0, "echo"+strings.Repeat(" $n", many-1)); status != 0 {
			t.Error(many, status)
		}
		// Each of two commands may have as many.
		check("true"+words[1:]+" | echo"+words[1:], stock())
	}
	b := filled(6, 0)
	askBox(t, b, "echo * f f f f f", "f0 f1 f2 f3 f4 f5 f f f f f\n", 0)
	askBox(t, b, "echo * f f f f f f", "", 125)
	askBox(t, b, "echo * *", "", 125)
	askBox(t, filled(5, 0), "echo * *", "f0 f1 f2 f3 f4 f0 f1 f2 f3 f4\n", 0)
	askBox(t, b, "* *", "", 127)
}

func TestP21Undone(t *testing.T) {
	b := changed(shop(), "h=x", "$i=1")
	for _, ahead := range []string{"y=1", "x=9", "> f", "echo a >> g", "> n", "rm f", "rm *", "mv f n", "cp f g", "echo a | read x", "echo a | read y", "mv f n | cp n g", "y=1 rm f > g", "rm f g | > f", "x= w= s="} {
		if _, _, status := checkBox(t, b, 7, ahead); status != 0 {
			t.Error(ahead, status)
		}
		for _, wrong := range []string{"echo $((1/0))", "x=$((1/0))", "y=$w$w$w$w$w$w", "echo $w$w$w$w$w$w 1 2 3 4 5 6 7 8 9", "cat < $((w))", "echo > $((1/0))", "true $((999999*2))", "echo 1 2 3 4 5 6 7 8 9 10 11 12"} {
			if strings.HasPrefix(ahead, "x= ") && (strings.Contains(wrong, "$w") || strings.Contains(wrong, "((w")) {
				continue
			}
			askBox(t, b, ahead+" | "+wrong, "", 125)
			askBox(t, b, ahead+" | "+wrong+" | echo a", "", 125)
			askBox(t, b, "cat a.log | "+ahead+" | cat a.log | "+wrong, "", 125)
		}
		for _, full := range []string{"> n1 > n2 > n3 > n4 > n5 > n6 > n7", "a=1 b=2 c=3", "> n1 | > n2 | > n3 | > n4 | > n5 | > n6 | > n7", "cat a.log > n > m > n6 > n7 > n8 > n9 > n10"} {
			askBox(t, b, ahead+" | "+full, "", 124)
			askBox(t, b, ahead+" | "+full+" | true | echo a", "", 124)
		}
	}
	// What does not go wrong as a whole stays, however it ends.
	askBox(t, b, "y=1 false", "", 1, "$y=1")
	askBox(t, b, "rm f | none", "", 127, "-f")
	askBox(t, b, "rm f none", "", 1, "-f")
	askBox(t, b, "> f | test a b c", "", 2, "f=")
	askBox(t, b, "> f < none | false", "", 1, "f=")
}

// The first that goes wrong counts, by what is done ahead of what.
func TestP21First(t *testing.T) {
	names, files := filled(0, 6), filled(6, 0)
	long := stock("f="+strings.Repeat("x", 150), "a=", "b=", "c=", "d=", "e=")
	for _, c := range []struct {
		box    impl.Box
		row    string
		status int
	}{
		{names, "n=1 m=$((1/0))", 124},
		{names, "m=$((1/0)) n=1", 125},
		{names, "n=$((1/0))", 125},
		{names, "v0=$((1/0)) n=1", 125},
		{names, "n=1 echo $((1/0))", 124},
		{names, "echo $((1/0)) | n=1", 125},
		{names, "n=1 | echo $((1/0))", 124},
		{names, "echo $((1/0)) > f n=1", 125},
		{names, "> $((1/0)) n=1", 124},
		{files, "echo $((1/0)) > n", 125},
		{files, "> n echo $((1/0))", 125},
		{files, "> n > $((1/0))", 124},
		{files, "> $((1/0)) > n", 125},
		{files, "> n x=$((1/0))", 125},
		{files, "> n < none", 124},
		{files, "< none > n", 1},
		{files, "< none > $((1/0))", 1},
		{files, "< none echo $((1/0))", 125},
		{files, "> n | echo $((1/0))", 124},
		{files, "echo $((1/0)) | > n", 125},
		{files, "true 1 2 3 4 5 6 7 8 9 10 11 12 > n", 125},
		{long, "cat f f | echo $((1/0))", 124},
		{long, "echo $((1/0)) | cat f f", 125},
		{long, "cat f f > $((1/0))", 125},
		{long, "cat f f < none", 1},
		{long, "cat f f < none | echo $((1/0))", 125},
		{long, "read n < f | echo $((1/0))", 124},
		{long, "echo $((1/0)) | read n < f", 125},
		{long, "echo >> f | echo $((1/0))", 124},
		{long, "cp f g | echo $((1/0))", 124},
		{long, "sort f | echo $((1/0))", 124},
	} {
		askBox(t, c.box, c.row, "", c.status)
	}
}

// wrongBoxes is boxes of which one part is not ok.
func wrongBoxes() []impl.Box {
	var list []impl.Box
	for _, vars := range wrongVars() {
		list = append(list, impl.Box{Vars: vars}, impl.Box{Files: []impl.File{{Name: "f"}}, Vars: vars})
	}
	for _, names := range wrongFiles() {
		var b impl.Box
		for _, name := range names {
			b.Files = append(b.Files, impl.File{Name: name})
		}
		list = append(list, b)
	}
	for _, text := range []string{"\t", "\x00", "\x1f", "\x7f", "\x80", "é", "\r\n", "a\vb", "\xff", strings.Repeat("a", 151), strings.Repeat("\n", 151), strings.Repeat("a", 149) + "\n\x00"} {
		list = append(list, impl.Box{Files: []impl.File{{Name: "f", Text: text}}}, impl.Box{Files: []impl.File{{Name: "e"}, {Name: "f", Text: text}, {Name: "g"}}})
	}
	return list
}

func TestP21BoxOk(t *testing.T) {
	for _, b := range wrongBoxes() {
		if impl.BoxOk(b) || boxFits(b) {
			t.Errorf("%q", b)
		}
	}
	full := filled(6, 6)
	for i := range full.Files {
		full.Files[i].Text = strings.Repeat(" ~\n", 50)
		full.Vars[i].Text = strings.Repeat(" ~", 25)
	}
	for _, b := range []impl.Box{{}, {Files: []impl.File{}, Vars: []impl.Var{}}, shop(), filled(6, 0), filled(0, 6), full, stock("-=", "a=\n", "A=~ ", "$a=", "$A=~ ")} {
		if !impl.BoxOk(b) {
			t.Errorf("%q", b)
		}
		given, untouched := guardedBox(t, b)
		impl.BoxOk(given)
		untouched("BoxOk")
	}
	for c := range 256 {
		text := string([]byte{'a', byte(c), 'b'})
		printed := c >= ' ' && c <= '~'
		if impl.BoxOk(impl.Box{Files: []impl.File{{Name: "f", Text: text}}}) != (printed || c == '\n') || impl.BoxOk(impl.Box{Vars: []impl.Var{{Name: "f", Text: text}}}) != printed {
			t.Errorf("%q", text)
		}
	}
	dice := newDice(210)
	fine := 0
	for range 20000 {
		b := randomBox(dice)
		spoilBox(dice.IntN, &b)
		if impl.BoxOk(b) != boxFits(b) {
			t.Fatalf("%q", b)
		}
		if impl.BoxOk(b) {
			fine++
		}
	}
	if fine < 2000 || fine > 18000 {
		t.Error(fine)
	}
}

// spoilBox changes a part of a box, so that it is not ok, or still is.
func spoilBox(throw func(many int) int, b *impl.Box) {
	texts := []string{"", "a", "zz", "\n", "\x00", "1", "é", strings.Repeat("a", 20), strings.Repeat("a", 21), strings.Repeat("a", 50), strings.Repeat("a", 51), strings.Repeat("a", 150), strings.Repeat("a", 151)}
	text := texts[throw(len(texts))]
	switch throw(6) {
	case 0:
		b.Files = append(b.Files, impl.File{Name: text})
	case 1:
		b.Vars = append(b.Vars, impl.Var{Name: text})
	case 2:
		slices.Reverse(b.Files)
	case 3:
		slices.Reverse(b.Vars)
	case 4:
		for i := range b.Files {
			b.Files[i].Text = text
		}
	case 5:
		for i := range b.Vars {
			b.Vars[i].Text = text
		}
	}
}

func TestP21NotOk(t *testing.T) {
	refuse := func(b impl.Box, last int, row string) {
		t.Helper()
		box, told, status := checkBox(t, b, last, row)
		if status != -1 || told != "" || len(box.Files)+len(box.Vars) > 0 {
			t.Errorf("%q with %d in %q: %q %q %d", row, last, b, box, told, status)
		}
	}
	for _, b := range wrongBoxes() {
		for _, row := range []string{"true", "echo a > f", "rm f", "a=1", "> $((1/0))"} {
			refuse(b, 0, row)
		}
	}
	for _, last := range []int{-1, 128, -1 << 62, 1 << 62, 256, -127} {
		refuse(shop(), last, "true")
		refuse(impl.Box{}, last, "echo $?")
	}
	for _, row := range []string{"", " ", "a; b", "echo a;", " echo a", "echo a ", "echo  a", "echo a\n", "echo a && echo b", "echo a || echo b", "! true", "if true; then true; fi", "{ true; }", "echo a |", "| echo a", "echo a | | echo b", "echo >", "echo > > f", "echo>f", "echo a|cat", "'a", "echo $", "echo $1", "echo \"", "# a", "echo a # b", "for i in a; do true; done", "case $? in 0) true;; esac", "while", "echo a | if", "echo \x00", "echo é", "echo\ta", "(echo)", strings.Repeat("a", 61), strings.Repeat("a ", 80) + "a", "echo a &", strings.Repeat("x", 100000)} {
		refuse(shop(), 0, row)
		refuse(impl.Box{}, 0, row)
	}
	for last := range impl.StatusMax + 1 {
		if box, told, status := checkBox(t, shop(), last, "echo $?"); told != strconv.Itoa(last)+"\n" || status != 0 || !sameBox(box, shop()) {
			t.Error(last, told, status)
		}
	}
	long := "echo " + strings.Repeat("a", 50) + " " + strings.Repeat("b", 50) + " " + strings.Repeat("c", 37)
	if len(long+" > f234567890123") != impl.PipeMax {
		t.Fatal(len(long))
	}
	askBox(t, impl.Box{}, long+" > f234567890123", "", 0, "f234567890123="+long[5:]+"\n")
	refuse(impl.Box{}, 0, long+" > f2345678901234")
}

func TestP21RandomRows(t *testing.T) {
	t.Parallel()
	dice := newDice(21)
	ends := map[int]int{}
	for range 5000 {
		b := randomBox(dice)
		for range 4 {
			box, _, status := checkBox(t, b, dice.IntN(128), randomCommands(dice))
			ends[status]++
			b = box
			if status == -1 {
				break
			}
		}
	}
	for status, least := range map[int]int{0: 2000, 1: 2000, 2: 500, 124: 250, 125: 500, 127: 200} {
		if ends[status] < least {
			t.Error(status, ends[status])
		}
	}
	if len(ends) > 7 {
		t.Error(ends)
	}
}

func TestP21AnyRows(t *testing.T) {
	t.Parallel()
	dice := newDice(211)
	for range 3000 {
		b := randomBox(dice)
		checkBox(t, b, dice.IntN(132)-2, randomRow(dice))
		checkBox(t, b, 0, spoil(dice, randomCommands(dice), "a |<>;&'\"\\$#\n{}!=*"))
		spoilBox(dice.IntN, &b)
		checkBox(t, b, 0, randomCommands(dice))
		word, _ := randomWord(dice, 50)
		checkBox(t, randomBox(dice), 1, "echo "+word)
		checkBox(t, randomBox(dice), 1, "x="+word+" echo \"$x\" > f")
		checkBox(t, randomBox(dice), 1, "echo a > "+word)
	}
}

func TestP22IntoFile(t *testing.T) {
	t.Parallel()
	dice := newDice(22)
	kept := 0
	check := func(b impl.Box, row string) {
		t.Helper()
		box, told, status := checkBox(t, b, 3, row)
		into := row + " | cat > keep"
		_, there := keeperOf(box, 0).files["keep"]
		if status == -1 || status == impl.StatusFull || status == impl.StatusBad || !impl.PipeOk(into) || !there && len(box.Files) == impl.FileMax {
			return
		}
		after, nothing, end := checkBox(t, b, 3, into)
		if end != 0 || nothing != "" || !sameBox(after, changed(box, "keep="+told)) {
			t.Fatalf("%q in %q: %q %q %d", into, b, after, nothing, end)
		}
		if _, again, end := checkBox(t, after, 3, "cat keep"); again != told || end != 0 {
			t.Fatalf("%q in %q: %q %d, not %q", into, b, again, end, told)
		}
		kept++
	}
	for _, row := range []string{"echo a", "cat f", "cat f none", "false", "none", "sort f", "grep z f", "wc f", "echo", "> f", "x=1", "cat", "cat a.log g f", "echo a < none", "rm f"} {
		check(shop(), row)
		check(changed(shop(), "keep=old"), row)
	}
	check(stock("f="+strings.Repeat("\n", 150)), "cat f")
	check(filled(5, 0), "cat f1")
	check(changed(filled(5, 0), "keep=1"), "cat keep")
	for range 5000 {
		check(randomBox(dice), randomCommands(dice))
	}
	if kept < 2000 {
		t.Error(kept)
	}
}

func TestP23OnlyLook(t *testing.T) {
	t.Parallel()
	dice := newDice(23)
	looks := strings.Fields("true : false echo cat test wc sort grep head none")
	check := func(b impl.Box, row string) {
		t.Helper()
		if box, _, status := checkBox(t, b, 3, row); status == -1 || !sameBox(box, b) {
			t.Fatalf("%q in %q: %q %d", row, b, box, status)
		}
	}
	for _, look := range looks {
		check(shop(), look)
		check(shop(), look+" < f")
		check(shop(), "cat f | "+look+" 1 | "+look+" a f")
	}
	for range 10000 {
		var row []string
		for range 1 + dice.IntN(3) {
			command := pick(dice, looks)
			for range dice.IntN(3) {
				command += " " + pick(dice, fewWords)
			}
			if dice.IntN(3) == 0 {
				command += " < " + pick(dice, fewTargets)
			}
			row = append(row, command)
		}
		if s := strings.Join(row, " | "); len(s) <= impl.PipeMax {
			check(randomBox(dice), s)
		}
	}
}

// textsOfLines is files' texts of lines that are alike, empty, and without a newline at the end.
func textsOfLines(call func(text string)) {
	eachText("ab\n", 5, call)
	for _, text := range []string{"b\na\n", "b\na", "\n\n\n", "b\n\na\n\n", "a\na\na", "ab\na\n", "a \na\n", "B\na\n_\n", "10\n9\n", "~\n \n", "x", strings.Repeat("b\na\n", 37), strings.Repeat("\n", 150), strings.Repeat("z", 149) + "\n", strings.Repeat("z", 149)} {
		call(text)
	}
	dice := newDice(24)
	for range 600 {
		call(randomText(dice, "abc \n\n", 149))
	}
}

func TestP24Sort(t *testing.T) {
	t.Parallel()
	textsOfLines(func(text string) {
		b := stock("f=" + text)
		box, sorted, status := checkBox(t, b, 0, "sort f")
		if status != 0 || !sameBox(box, b) || len(linesIn(sorted)) != len(linesIn(text)) {
			t.Fatalf("%q: %q %d", text, sorted, status)
		}
		for _, row := range []string{"sort < f", "cat f | sort", "sort f | sort", "sort < f | sort | sort"} {
			if _, again, status := checkBox(t, b, 0, row); again != sorted || status != 0 {
				t.Fatalf("%q of %q: %q %d, not %q", row, text, again, status, sorted)
			}
		}
		_, many, _ := checkBox(t, b, 0, "wc f")
		if _, again, _ := checkBox(t, b, 0, "sort f | wc"); again != many {
			t.Fatalf("%q: %q lines, not %q", text, again, many)
		}
		_, first, status := checkBox(t, b, 0, "sort f | head 1")
		if status != 0 || !strings.HasPrefix(sorted, first) || (first == "") != (text == "") || strings.Count(first, "\n") > 1 {
			t.Fatalf("%q: %q begins with %q", text, sorted, first)
		}
		for _, line := range linesIn(text) {
			if line < first || strings.Count("\n"+sorted, "\n"+line) == 0 {
				t.Fatalf("%q: %q in %q", text, line, sorted)
			}
		}
	})
}

func TestP25Grep(t *testing.T) {
	t.Parallel()
	textsOfLines(func(text string) {
		b := stock("f=" + text)
		for _, word := range []string{"''", "a", "b", "ab", "' '", "zz"} {
			_, found, status := checkBox(t, b, 0, "grep "+word+" f")
			if (status == 0) != (found != "") || status > 1 {
				t.Fatalf("%q of %q: %q %d", word, text, found, status)
			}
			if word == "''" && (status == 0) != (text != "") {
				t.Fatalf("%q: %q %d", text, found, status)
			}
			for _, row := range []string{"grep " + word + " < f", "cat f | grep " + word, "grep " + word + " f | grep " + word} {
				if _, again, end := checkBox(t, b, 0, row); again != found || end != status {
					t.Fatalf("%q of %q: %q %d, not %q %d", row, text, again, end, found, status)
				}
			}
		}
	})
}

func TestP26Copies(t *testing.T) {
	t.Parallel()
	dice := newDice(26)
	moved := 0
	for range 5000 {
		b := randomBox(dice)
		from, to := pick(dice, fewFiles), pick(dice, append([]string{"new"}, fewFiles...))
		text, there := keeperOf(b, 0).files[from]
		old, taken := keeperOf(b, 0).files[to]
		copied, _, status := checkBox(t, b, 0, "cp "+from+" "+to)
		box, _, end := checkBox(t, b, 0, "mv "+from+" "+to)
		if !there {
			if status != 1 || end != 1 || !sameBox(copied, b) || !sameBox(box, b) {
				t.Fatalf("%q to %q in %q: %d %d", from, to, b, status, end)
			}
			continue
		}
		full := !taken && len(b.Files) == impl.FileMax
		want := keeperOf(b, 0)
		want.files[to] = text
		if full != (status == impl.StatusFull) || !full && !sameBox(copied, want.box()) {
			t.Fatalf("cp %q %q in %q: %q %d", from, to, b, copied, status)
		}
		if from != to {
			delete(want.files, from)
		}
		if end != 0 || !sameBox(box, want.box()) {
			t.Fatalf("mv %q %q in %q: %q %d", from, to, b, box, end)
		}
		box, _, end = checkBox(t, box, 0, "mv "+to+" "+from)
		back := keeperOf(box, 0)
		if taken {
			back.files[to] = old
		}
		if end != 0 || !sameBox(back.box(), b) {
			t.Fatalf("mv %q %q and back in %q: %q %d", from, to, b, box, end)
		}
		moved++
	}
	if moved < 1000 {
		t.Error(moved)
	}
}

// checkSet asks that a name that is set to a text says it (P27).
func checkSet(t *testing.T, text string) bool {
	t.Helper()
	word := impl.WordQuote(text)
	if word == "" || len(text) > impl.FieldMax || len("n="+word) > impl.WordMax {
		return false
	}
	b := shop()
	box, told, status := checkBox(t, b, 0, "n="+word)
	if status != 0 || told != "" || !sameBox(box, changed(b, "$n="+text)) || len(box.Vars) != len(b.Vars)+1 {
		t.Fatalf("%q: %q %q %d", text, box, told, status)
	}
	for _, row := range []string{"echo \"$n\"", "echo \"${n}\"", "n=" + word + " echo \"$n\""} {
		if _, told, status := checkBox(t, box, 0, row); told != text+"\n" || status != 0 {
			t.Fatalf("%q: %q: %q %d", text, row, told, status)
		}
	}
	for _, row := range []string{"test \"$n\" = " + word, "m=" + word + " test \"$n\" = \"$m\"", "n=" + word + " | test " + word + " = \"$n\""} {
		if _, _, status := checkBox(t, box, 0, row); status != 0 {
			t.Fatalf("%q: %q: %d", text, row, status)
		}
	}
	if again, _, status := checkBox(t, box, 0, "n="+word); status != 0 || !sameBox(again, box) {
		t.Fatalf("%q: again %q %d", text, again, status)
	}
	return true
}

func TestP27Said(t *testing.T) {
	t.Parallel()
	for _, text := range []string{"", " ", "a", "a b", "  a  ", "'", "it's", "\"", "\\", "$x", "$", "*", "#", "#a", "=", "x=1", ";|&<>()", "-f", "~", strings.Repeat("a", 50), strings.Repeat(" ", 50), strings.Repeat("*", 50), strings.Repeat("'", 13)} {
		if !checkSet(t, text) {
			t.Errorf("%q", text)
		}
	}
	eachText("a' \"\\$*#=", 3, func(s string) { checkSet(t, s) })
	dice := newDice(27)
	for range 800 {
		checkSet(t, randomText(dice, "abc'\"\\$ #*;&./-x{}()?=", 50))
	}
}

func TestP28CountedUp(t *testing.T) {
	for _, name := range []string{"n", "x", "_", "abcdef"} {
		b := shop()
		for _, row := range []string{name + "=8", name + "=$((" + name + "+1))", name + "=$((" + name + " + 1))", name + "=\"$((1+" + name + "))\""} {
			box, told, status := checkBox(t, b, 0, row)
			if told != "" || status != 0 {
				t.Fatalf("%q: %q %d", row, told, status)
			}
			b = box
		}
		askBox(t, b, "echo $"+name, "11\n", 0)
		for _, sum := range []string{name + "/0", name + "%0", name + "/(" + name + "-11)", "1+" + name + "/none", name + "*999999"} {
			askBox(t, b, name+"=$(("+sum+"))", "", impl.StatusBad)
			askBox(t, b, "echo $(("+sum+"))", "", impl.StatusBad)
			askBox(t, b, name+"=1 | echo \"$((1/0))\"", "", impl.StatusBad)
		}
		askBox(t, b, name+"=$(("+name+"+1)) "+name+"=$(("+name+"+1)) | "+name+"=$(("+name+"+1)) echo $"+name, "14\n", 0, "$"+name+"=14")
	}
	askBox(t, stock("$n=999998"), "n=$((n+1))", "", 0, "$n=999999")
	askBox(t, stock("$n=999999"), "n=$((n+1))", "", 125)
	askBox(t, stock("$n=-1"), "n=$((n+1))", "", 0, "$n=0")
	askBox(t, stock("$n=a"), "n=$((n+1))", "", 125)
	askBox(t, stock(), "n=$((n+1))", "", 0, "$n=1")
}

// scribbleBox writes into all that a box has, room behind its ends included.
func scribbleBox(b impl.Box) {
	for i := range b.Files[:cap(b.Files)] {
		b.Files[:cap(b.Files)][i] = impl.File{Name: "mark", Text: "5"}
	}
	for i := range b.Vars[:cap(b.Vars)] {
		b.Vars[:cap(b.Vars)][i] = impl.Var{Name: "mark", Text: "5"}
	}
}

func TestBoxAnswersAreNew(t *testing.T) {
	for _, row := range []string{"true", "false", "x=1", "y=1", "> n", "> f", "rm f", "rm none", "mv f n", "echo $((1/0))", "rm f | y=1 echo $((1/0))", "cat f f f f f f f f f f", "cat < none", "none", "a b c; d"} {
		b, untouched := guardedBox(t, shop())
		box, told, status := impl.BoxRun(b, 0, row)
		kept := changed(box)
		again, toldAgain, statusAgain := impl.BoxRun(b, 0, row)
		scribbleBox(box)
		untouched("an answer of " + row)
		if !sameBox(again, kept) || told != toldAgain || status != statusAgain {
			t.Errorf("%q: an answer is shared: %q %q %d, %q %q %d", row, again, toldAgain, statusAgain, kept, told, status)
		}
	}
}

// settled waits until no more goroutines are there than were, as one that is at its end may still be counted for a moment.
func settled(t *testing.T, before int) {
	t.Helper()
	for range 200 {
		if runtime.NumGoroutine() <= before {
			return
		}
		time.Sleep(5 * time.Millisecond)
	}
	t.Errorf("%d goroutines, there were %d", runtime.NumGoroutine(), before)
}

func TestBoxLeavesNobodyBehind(t *testing.T) {
	before := runtime.NumGoroutine()
	full := stock("f="+strings.Repeat("a\n", 75), "g=")
	for range 200 {
		// Who reads nothing, who tells much to one that reads nothing, and who goes wrong ahead of others.
		for _, row := range []string{"cat f | true", "cat f | true | cat f | false | cat f", "cat f | echo a", "cat f | none | cat", "cat f f | cat | cat", "echo $((1/0)) | cat | cat", "cat | cat | cat | cat", "true | cat f | cat < none | cat f", "cat f | cat < g | cat f | wc", "a; b", "cat f | " + strings.Repeat("cat | ", 24) + "wc"} {
			impl.BoxRun(full, 0, row)
		}
	}
	settled(t, before)
	askBox(t, full, "cat f | "+strings.Repeat("cat | ", 24)+"wc", "75\n", 0)
	askBox(t, full, "cat f | true | wc", "0\n", 0)
	askBox(t, full, "cat f | echo a | cat", "a\n", 0)
	askBox(t, full, "cat f | head 2 | cat", "a\na\n", 0)
	askBox(t, full, strings.TrimSuffix(strings.Repeat("x=1$x | ", 20), " | "), "", 0, "$x="+strings.Repeat("1", 20))
}

// Whoever asks at the same time gets the same answers.
func TestBoxManyAtOnce(t *testing.T) {
	dice := newDice(212)
	var boxes []impl.Box
	var rows []string
	for range 200 {
		boxes, rows = append(boxes, randomBox(dice)), append(rows, randomCommands(dice))
	}
	var wg sync.WaitGroup
	wrong := make([]int, 8)
	for worker := range wrong {
		wg.Go(func() {
			for i := range rows {
				box, told, status := impl.BoxRun(boxes[i], 1, rows[i])
				wantBox, wantTold, wantStatus := expectRun(boxes[i], 1, rows[i])
				if !sameBox(box, wantBox) || told != wantTold || status != wantStatus {
					wrong[worker]++
				}
			}
		})
	}
	wg.Wait()
	if slices.Max(wrong) > 0 {
		t.Error(wrong)
	}
}
