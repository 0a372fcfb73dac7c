package tests

import (
	"maps"
	"math/rand/v2"
	"regexp"
	"slices"
	"sort"
	"strconv"
	"strings"

	"loop.example/fugleman/impl"
)

// keeper does commands in a box that is two maps, one command behind the other, without the program's boxes.
type keeper struct {
	files map[string]string
	vars  map[string]string
	last  int
}

// asWhole is what a keeper panics with: how all commands end.
type asWhole int

func keeperOf(b impl.Box, last int) *keeper {
	k := &keeper{files: map[string]string{}, vars: map[string]string{}, last: last}
	for _, f := range b.Files {
		k.files[f.Name] = f.Text
	}
	for _, v := range b.Vars {
		k.vars[v.Name] = v.Text
	}
	return k
}

func (k *keeper) box() impl.Box {
	var b impl.Box
	for _, name := range slices.Sorted(maps.Keys(k.files)) {
		b.Files = append(b.Files, impl.File{Name: name, Text: k.files[name]})
	}
	for _, name := range slices.Sorted(maps.Keys(k.vars)) {
		b.Vars = append(b.Vars, impl.Var{Name: name, Text: k.vars[name]})
	}
	return b
}

// scene is what words are looked at with in the box as it is.
func (k *keeper) scene() scene {
	return scene{vars: k.box().Vars, names: slices.Sorted(maps.Keys(k.files)), last: k.last}
}

func (k *keeper) put(name string, text string) {
	k.files[name] = text
	if len(k.files) > 6 || len(text) > 150 {
		panic(asWhole(124))
	}
}

func (k *keeper) set(name string, text string) {
	k.vars[name] = text
	if len(k.vars) > 6 || len(text) > 50 {
		panic(asWhole(124))
	}
}

// expectRun is what commands in a row must come to.
func expectRun(b impl.Box, last int, row string) (box impl.Box, told string, status int) {
	if !boxFits(b) || last < 0 || last > 127 || !impl.PipeOk(row) {
		return impl.Box{}, "", -1
	}
	defer func() {
		switch r := recover().(type) {
		case nil:
		case asWhole:
			box, told, status = b, "", int(r)
		default:
			panic(r)
		}
	}()
	k := keeperOf(b, last)
	tokens, _ := impl.Lex(row)
	for {
		bar := slices.IndexFunc(tokens, func(token impl.Token) bool { return token.Text == "|" })
		if bar < 0 {
			told, status = k.command(tokens, told)
			return k.box(), told, status
		}
		told, _ = k.command(tokens[:bar], told)
		tokens = tokens[bar+1:]
	}
}

var setForm = regexp.MustCompile(`^([A-Za-z_][A-Za-z0-9_]{0,5})=`)

// command does one command; what it tells, and how it ends.
func (k *keeper) command(tokens []impl.Token, in string) (string, int) {
	var words []string
	for i, token := range tokens {
		if token.Kind == impl.TokWord && (i == 0 || tokens[i-1].Kind == impl.TokWord) {
			words = append(words, token.Text)
		}
	}
	for len(words) > 0 && setForm.MatchString(words[0]) {
		name := setForm.FindStringSubmatch(words[0])[1]
		k.set(name, k.textSet(words[0][len(name)+1:]))
		words = words[1:]
	}
	var fields []string
	for _, word := range words {
		fields = append(fields, k.fields(word)...)
	}
	if len(fields) > 12 {
		panic(asWhole(125))
	}
	in, goal, ok := k.lead(tokens, in)
	if !ok {
		return "", 1
	}
	told, status := "", 0
	if len(fields) > 0 {
		told, status = k.call(fields, in)
	}
	if len(told) > 150 {
		panic(asWhole(124))
	}
	if file, adds := strings.CutPrefix(goal, ">>"); adds {
		k.put(file, k.files[file]+told)
		return "", status
	}
	if goal != "" {
		k.put(goal[1:], told)
		return "", status
	}
	return told, status
}

// textSet is what stands behind `NAME=`.
func (k *keeper) textSet(word string) string {
	var pieces []impl.Piece
	switch {
	case strings.HasPrefix(word, "#"):
		pieces = impl.WordPieces(`\` + word)
	case word != "":
		pieces = impl.WordPieces(word)
	}
	text, ok := k.scene().one(pieces)
	if !ok {
		panic(asWhole(125))
	}
	return text
}

func (k *keeper) fields(word string) []string {
	list, ok := k.scene().fields(impl.WordPieces(word))
	if !ok {
		panic(asWhole(125))
	}
	return list
}

// lead is what a command reads, and the sign and the file to which it tells.
func (k *keeper) lead(tokens []impl.Token, in string) (string, string, bool) {
	goal := ""
	for i, token := range tokens {
		if token.Kind == impl.TokWord {
			continue
		}
		fields := k.fields(tokens[i+1].Text)
		if len(fields) != 1 || !plainForm.MatchString(fields[0]) {
			return "", "", false
		}
		text, there := k.files[fields[0]]
		switch token.Text {
		case "<":
			if !there {
				return "", "", false
			}
			in = text
			continue
		case ">":
			k.put(fields[0], "")
		case ">>":
			k.put(fields[0], text)
		}
		goal = token.Text + fields[0]
	}
	return in, goal, true
}

var lineForm = regexp.MustCompile(`[^\n]*\n|[^\n]+$`)

// linesIn is the lines of a text, each with a newline.
func linesIn(text string) []string {
	list := lineForm.FindAllString(text, -1)
	for i := range list {
		list[i] = strings.TrimRight(list[i], "\n") + "\n"
	}
	return list
}

func (k *keeper) call(fields []string, in string) (string, int) {
	args := fields[1:]
	switch fields[0] {
	case "true", ":":
		return "", 0
	case "false":
		return "", 1
	case "echo":
		return strings.Join(args, " ") + "\n", 0
	case "test":
		return "", k.test(args)
	case "cat":
		return k.cat(args, in)
	case "rm":
		return "", k.rm(args)
	case "cp", "mv":
		return "", k.carry(fields)
	case "read":
		return "", k.read(args, in)
	case "wc", "sort":
		return k.lines(fields[0], "", args, in)
	case "grep", "head":
		if len(args) == 0 {
			return "", 2
		}
		return k.lines(fields[0], args[0], args[1:], in)
	}
	return "", 127
}

func (k *keeper) cat(args []string, in string) (string, int) {
	if len(args) == 0 {
		return in, 0
	}
	told, status := "", 0
	for _, name := range args {
		if _, there := k.files[name]; !there {
			status = 1
		}
		told += k.files[name]
	}
	return told, status
}

func (k *keeper) rm(args []string) int {
	status := 0
	for _, name := range args {
		if _, there := k.files[name]; !there {
			status = 1
		}
		delete(k.files, name)
	}
	if len(args) == 0 {
		return 2
	}
	return status
}

func (k *keeper) carry(fields []string) int {
	if len(fields) != 3 {
		return 2
	}
	text, there := k.files[fields[1]]
	if !there || !plainForm.MatchString(fields[2]) {
		return 1
	}
	if fields[0] == "mv" {
		delete(k.files, fields[1])
	}
	k.put(fields[2], text)
	return 0
}

func (k *keeper) read(args []string, in string) int {
	if len(args) != 1 || !nameForm.MatchString(args[0]) {
		return 2
	}
	for _, line := range linesIn(in) {
		k.set(args[0], strings.TrimRight(line, "\n"))
		return 0
	}
	return 1
}

// signedForm is a number with or without a sign ahead.
var signedForm = regexp.MustCompile(`^(0|-?[1-9][0-9]{0,5})$`)

func (k *keeper) test(args []string) int {
	yes := map[bool]int{true: 0, false: 1}
	switch {
	case len(args) == 1:
		return yes[args[0] != ""]
	case len(args) == 2 && args[0] == "-f":
		_, there := k.files[args[1]]
		return yes[there]
	case len(args) == 2 && args[0] == "-z":
		return yes[args[1] == ""]
	case len(args) == 2 && args[0] == "-n":
		return yes[args[1] != ""]
	case len(args) == 3 && args[1] == "=":
		return yes[args[0] == args[2]]
	case len(args) == 3 && args[1] == "!=":
		return yes[args[0] != args[2]]
	case len(args) != 3 || !signedForm.MatchString(args[0]) || !signedForm.MatchString(args[2]):
		return 2
	}
	left, _ := strconv.Atoi(args[0])
	right, _ := strconv.Atoi(args[2])
	signs := map[string]bool{"-eq": left == right, "-lt": left < right, "-gt": left > right}
	if _, known := signs[args[1]]; !known {
		return 2
	}
	return yes[signs[args[1]]]
}

// lines does a command that goes by lines, others being what it has beyond its own words.
func (k *keeper) lines(name string, own string, others []string, in string) (string, int) {
	if len(others) == 1 {
		text, there := k.files[others[0]]
		if !there {
			return "", 1
		}
		in, others = text, nil
	}
	if len(others) > 0 {
		return "", 2
	}
	list := linesIn(in)
	switch name {
	case "wc":
		return strconv.Itoa(len(list)) + "\n", 0
	case "sort":
		// The newline behind each comes ahead of all that is printed, as what ends first does.
		sort.Strings(list)
	case "head":
		if !numberForm.MatchString(own) {
			return "", 2
		}
		many, _ := strconv.Atoi(own)
		list = list[:min(many, len(list))]
	case "grep":
		list = slices.DeleteFunc(list, func(line string) bool { return strings.Index(strings.TrimRight(line, "\n"), own) < 0 })
		if len(list) == 0 {
			return "", 1
		}
	}
	return strings.Join(list, ""), 0
}

var textForm = regexp.MustCompile(`^[ -~\n]{0,150}$`)

// boxFits says whether a box is as the document asks.
func boxFits(b impl.Box) bool {
	s := scene{vars: b.Vars}
	for _, f := range b.Files {
		s.names = append(s.names, f.Name)
		if !textForm.MatchString(f.Text) {
			return false
		}
	}
	return s.isOk()
}

func sameBox(a impl.Box, b impl.Box) bool {
	return slices.Equal(a.Files, b.Files) && slices.Equal(a.Vars, b.Vars)
}

// stock is a box: an entry is NAME=TEXT of a file, or $NAME=TEXT of a name.
func stock(entries ...string) impl.Box {
	return changed(impl.Box{}, entries...)
}

// changed is a box with other entries; -NAME is a file that is gone.
func changed(b impl.Box, entries ...string) impl.Box {
	k := keeperOf(b, 0)
	for _, entry := range entries {
		name, text, _ := strings.Cut(entry, "=")
		if gone, ok := strings.CutPrefix(name, "-"); ok {
			delete(k.files, gone)
		} else if said, ok := strings.CutPrefix(name, "$"); ok {
			k.vars[said] = text
		} else {
			k.files[name] = text
		}
	}
	return k.box()
}

func pick(dice *rand.Rand, list []string) string {
	return list[dice.IntN(len(list))]
}

// randomBox is a box that is ok, of few names, so that rows often meet them.
func randomBox(dice *rand.Rand) impl.Box {
	k := keeperOf(impl.Box{}, 0)
	for range dice.IntN(12) {
		if len(k.files) < impl.FileMax {
			k.files[pick(dice, fewFiles)] = randomFileText(dice)
		}
		if len(k.vars) < impl.VarMax {
			k.vars[pick(dice, fewNames)] = randomText(dice, pick(dice, []string{"ab *", "12", "abcdefgh *-./'\"\\$#"}), []int{3, 3, 50}[dice.IntN(3)])
		}
	}
	return k.box()
}

func randomFileText(dice *rand.Rand) string {
	switch dice.IntN(6) {
	case 0:
		return ""
	case 1:
		return randomText(dice, "ab\n", 150)
	case 2:
		return strings.Repeat(randomText(dice, "abcdefghijk ", 70)+"\n", 2)
	case 3:
		return strings.Repeat("x", 48+dice.IntN(5)) + "\nb"
	}
	return randomText(dice, "ab \n\n", 20)
}

var (
	fewFiles   = strings.Fields("a b c d e f g a.b - /")
	fewNames   = strings.Fields("x y z w i _ A9")
	fewCalls   = strings.Fields("true : false echo echo cat cat test rm cp mv read wc sort grep head none $x ''")
	fewWords   = strings.Split(`a  b  c  d  e  f  g  a.b  0  1  2  3  -1  01  x  y  z  *  a*  $x  $x  "$x"  ${y}  "$y$z"  $?  $((x+1))  ''  'a b'  "a $x"  \*  -f  -z  -n  =  !=  -eq  -lt  -gt  x=1  no\ file  $((z/x))  aaaaaaaaaaaaaaaaaaaaaaaaaaaaaaaaaaaaaaaaaaaaaaaaaa`, "  ")
	fewSets    = strings.Split(`x=1  x=  y=$x  y=$x$x  y="$x b"  z='a b'  w=#  i=*  _=$((x+1))  A9=$?  toolong=1  1x=2  'x'=1  x\=1  x=$((1/0))  z=$x$y$z  n=1  m=2`, "  ")
	fewTargets = strings.Split(`a  b  c  d  e  f  g  h  a.b  a  $x  "$x"  *  a*  ''  $none  'a b'  aaaaaaaaaaaaaaaaaaaaa  $((x))  $((1/0))  "$y"`, "  ")
)

// randomCommands is commands in a row of words that boxes meet.
func randomCommands(dice *rand.Rand) string {
	for {
		var row []string
		for range 1 + dice.IntN(3) {
			row = append(row, randomCommand(dice))
		}
		if s := strings.Join(row, " | "); impl.PipeOk(s) {
			return s
		}
	}
}

func randomCommand(dice *rand.Rand) string {
	var parts []string
	for range dice.IntN(3) * dice.IntN(2) {
		parts = append(parts, pick(dice, fewSets))
	}
	if dice.IntN(8) > 0 || len(parts) == 0 {
		parts = append(parts, pick(dice, fewCalls))
		for range dice.IntN(4) {
			parts = append(parts, pick(dice, fewWords))
		}
	}
	for range dice.IntN(3) * dice.IntN(2) {
		route := pick(dice, []string{"<", ">", ">>"}) + " " + pick(dice, fewTargets)
		parts = slices.Insert(parts, dice.IntN(len(parts)+1), route)
	}
	return strings.Join(parts, " ")
}
