package tests

import (
	"regexp"
	"strings"

	"loop.example/formatplans/impl"
)

// dollarPattern has what a dollar form begins with: a text, a $, or a field with all letters that follow, or with those between braces.
var dollarPattern = regexp.MustCompile(`^(?:([ -#%-~]+|\$\$)|\$(?:([a-z]+)|\{([a-z]+)\}))`)

// dollarFrom returns what DollarTemplate is to give: it writes the template, and reads it, so that names that are too long are none.
func dollarFrom(s string) (impl.Template, bool) {
	out := ""
	for rest := s; rest != ""; {
		m := dollarPattern.FindStringSubmatch(rest)
		switch {
		case m == nil:
			return impl.Template{}, false
		case m[1] != "":
			out += doubledBy(strings.ReplaceAll(m[1], "$$", "$"))
		default:
			out += "{" + m[2] + m[3] + "}"
		}
		rest = rest[len(m[0]):]
	}
	if len(s) > impl.MaxText {
		return impl.Template{}, false
	}
	return templateFrom(out)
}

// dollarsOf returns the texts of a template with each $ twice and with some of its fields in braces: the first one if choice is odd, and so on.
func dollarsOf(t impl.Template, choice int) string {
	out := ""
	for _, p := range t.Pieces {
		switch {
		case !p.Field:
			out += strings.Join(strings.Split(p.Text, "$"), "$$")
			continue
		case choice%2 == 1:
			out += "${" + p.Name + "}"
		default:
			out += "$" + p.Name
		}
		choice /= 2
	}
	return out
}

// dollarBy returns what DollarText is to give for a valid template: it tries all choices of braces, and takes the shortest that is read back.
func dollarBy(t impl.Template) (string, bool) {
	best, found := "", false
	for choice := range 1 << len(namesBy(t)) {
		s := dollarsOf(t, choice)
		back, ok := dollarFrom(s)
		if ok && sameTemplate(back, t) && (!found || len(s) < len(best)) {
			best, found = s, true
		}
	}
	return best, found
}

// filledDollars returns what FillDollar is to give for a dollar form and valid arguments.
func filledDollars(s string, a impl.Args) (string, bool) {
	t, ok := dollarFrom(s)
	if !ok {
		return "", false
	}
	all := ""
	for _, p := range t.Pieces {
		all += p.Text
		if p.Field {
			v, told := valueIn(impl.Args{Named: a.Named}, p.Name)
			if !told {
				return "", false
			}
			all += bareOf(v)
		}
	}
	return all, true
}

// dollarWords has parts of dollar forms, of which most are fields or texts that stand next to fields.
var dollarWords = []string{"$a", "${a}", "$abcd", "${abcd}", "$$", "$", "a", "x{", "}", "A", "1", " ", "b$$"}

// dollarPieces has fields with names of letters, and texts with a $, a brace or a letter at their ends.
func dollarPieces() []impl.Piece {
	all := []impl.Piece{fieldOf("a", ""), fieldOf("b", ""), fieldOf("abcd", "")}
	for _, text := range []string{"$", "$$", "a", "z", "a$", "$a", "{a}", "{", "}", "A", "1", " a", "`", "a$b", "${"} {
		all = append(all, wordsOf(text))
	}
	return all
}

// eachDollarTemplate calls f with all templates of at most 4 of dollarPieces, of which some are not valid.
func eachDollarTemplate(f func(t impl.Template)) {
	var add func(t impl.Template, size int)
	add = func(t impl.Template, size int) {
		f(t)
		for _, p := range dollarPieces() {
			if size > 0 {
				add(templateOf(append(t.Pieces[:len(t.Pieces):len(t.Pieces)], p)...), size-1)
			}
		}
	}
	add(impl.Template{}, 4)
}
