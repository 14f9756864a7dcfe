package check

import (
	"marshalling/api"
	"marshalling/expr"
	"marshalling/value"
)

// spot is a field of a Var; of none it is the Var itself.
type spot struct {
	name, field string
	isField     bool
}

// kinds is what is known of each spot.
type kinds map[spot]int

func known(l []Slot) kinds {
	k := kinds{}
	for _, s := range l {
		if _, ok := k[spot{name: s.Var}]; ok {
			continue
		}
		k[spot{name: s.Var}] = value.Int // what is counted is one
		for _, f := range s.Fields {
			at := spot{s.Var, f.Name, true}
			if _, ok := k[at]; !ok {
				k[at] = f.Kind
			}
		}
	}
	return k
}

// Kind tells the Kind of e's value, where l says what its names may be asked for.
func Kind(e expr.Expr, l []Slot) (int, api.Errno) {
	if !expr.Right(e) {
		return 0, api.ErrArg
	}
	return known(l).of(e)
}

func (k kinds) of(e expr.Expr) (int, api.Errno) {
	switch e.Kind {
	case expr.Lit:
		return e.V.Kind, api.OK
	case expr.Ref:
		return k.at(spot{e.Var, e.Field, true})
	case expr.Count:
		return k.at(spot{name: e.Var})
	}
	first, err := k.of(e.Kids[0])
	if err != api.OK {
		return 0, err
	}
	if e.Kind == expr.Unary {
		return unary(e.Op, first)
	}
	second, err := k.of(e.Kids[1])
	if err != api.OK {
		return 0, err
	}
	return binary(e.Op, first, second)
}

func (k kinds) at(x spot) (int, api.Errno) {
	kind, ok := k[x]
	if !ok {
		return 0, api.ErrName
	}
	return kind, api.OK
}

func unary(op string, kind int) (int, api.Errno) {
	if op == "-" && kind == value.Int || op == "!" && kind == value.Bool {
		return kind, api.OK
	}
	return 0, api.ErrType
}

func binary(op string, first, second int) (int, api.Errno) {
	if first != second {
		return 0, api.ErrType
	}
	may, told := first == value.Int, first
	switch op {
	case "||", "&&":
		may = first == value.Bool
	case "==", "!=", "<", "<=", ">", ">=":
		may, told = true, value.Bool
	case "+":
		may = first == value.Int || first == value.Text
	}
	if !may {
		return 0, api.ErrType
	}
	return told, api.OK
}
