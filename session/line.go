package session

import (
	"strconv"
	"strings"

	"ulp/api"
	"ulp/flags"
	"ulp/libm"
	"ulp/sixteen"
)

// blank stands between two words, once; between is the text of it.
const (
	blank   = ' '
	between = string(blank)
)

// lineOf is an entry's text, with an LF, if it has one: one that is right and has nothing that the text would not tell.
func lineOf(e api.Entry) (string, bool) {
	k, right := rightKind(e)
	if !right || k.told(e) != e {
		return "", false
	}
	words := append([]string{k.word}, k.write(e)...)
	return strings.Join(words, between) + "\n", true
}

// entryOf is the entry whose text that is, if there is one. It is read by what it may say, and written again: so there is but one line of an entry.
func entryOf(line string) (api.Entry, bool) {
	words := wordsOf(strings.TrimSuffix(line, "\n"))
	e := likely(words[0], words[1:])
	if again, has := lineOf(e); has && again == line {
		return e, true
	}
	return api.Entry{}, false
}

// likely is the entry that words tell of, if they tell of one; else any other.
func likely(first string, behind []string) api.Entry {
	for op, k := range kinds() {
		if op != int(api.OpNone) && k.word == first {
			e := k.read(behind)
			e.Op = api.OpKind(op)
			return e
		}
	}
	return api.Entry{}
}

// wordsOf are what stands ahead of, between and behind the blanks of a text; there is always one. They are cut by their bytes' places: so what is no UTF-8 stays what it is.
func wordsOf(text string) []string {
	var words []string
	begin := 0
	for i, r := range text {
		if r == blank {
			words = append(words, text[begin:i])
			begin = i + len(between)
		}
	}
	return append(words, text[begin:])
}

// wholeTold, setTold and nothingTold are what texts of calls, of sets and of a word alone tell of an entry.
func wholeTold(e api.Entry) api.Entry   { return e }
func setTold(e api.Entry) api.Entry     { return api.Entry{Op: e.Op, X: e.X} }
func nothingTold(e api.Entry) api.Entry { return api.Entry{Op: e.Op} }

func writeCall(e api.Entry) []string {
	return []string{libm.Name(e.Func), strconv.Itoa(e.Stage), sixteen.Show(e.X), sixteen.Show(e.Y)}
}

func readCall(words []string) api.Entry {
	if len(words) != 4 {
		return api.Entry{}
	}
	f, _ := libm.Find(words[0])
	stage, _ := strconv.Atoi(words[1])
	x, _ := sixteen.Read(words[2])
	y, _ := sixteen.Read(words[3])
	return api.Entry{Func: f, Stage: stage, X: x, Y: y}
}

func writeSet(e api.Entry) []string { return []string{flags.Show(setOf(e))} }

// readSet is handed the names of flags one by one: their text has blanks.
func readSet(words []string) api.Entry {
	set, _ := flags.Parse(strings.Join(words, between))
	return api.Entry{X: uint64(set)}
}

func writeNothing(api.Entry) []string { return nil }

func readNothing([]string) api.Entry { return api.Entry{} }
