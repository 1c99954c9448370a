package robustness

import (
	"fmt"
	"math"
	"math/rand"
	"reflect"
	"slices"
	"testing"
	"time"

	"grisaille/affine"
	"grisaille/api"
	"grisaille/console"
	"grisaille/history"
	"grisaille/hittest"
	"grisaille/paint"
	"grisaille/path"
	"grisaille/rational"
	"grisaille/retained"
	"grisaille/samples"
	"grisaille/scenebin"
	"grisaille/scenetext"
	"grisaille/workers"
)

var ints = []int{0, 1, -1, 2, 3, 4, 5, 7, 13, 16, 64, 255, 256, 257, -256, 4096, 4097, -4097, 65535, 65536, 65537, 1 << 20, 1<<20 + 1, -1 << 20, 1 << 30, 1 << 31, 1 << 40, 1 << 62, math.MaxInt - 1, math.MaxInt, math.MinInt, math.MinInt + 1}

var texts = []string{"", " ", "*", "M 0 0 L 1 1 Z", "-1/2", "12345678901234567890", "#ff8000ff", "solid #ff8000ff", "scene 4 4 #ffffffff\n", "*zz", "a b", "\n", "normal", "00ff", "-", "undo"}

// value returns a value of any type; now and then it is one that makes sense.
func value(r *rand.Rand, t reflect.Type, depth int) reflect.Value {
	v := reflect.New(t).Elem()
	if sample, ok := sensible(r, t); ok && r.Intn(3) > 0 {
		return reflect.ValueOf(sample)
	}
	switch t.Kind() {
	case reflect.Int:
		n := ints[r.Intn(len(ints))]
		if r.Intn(2) == 0 {
			n = r.Intn(9)
		}
		v.SetInt(int64(n))
	case reflect.Uint8, reflect.Uint32, reflect.Uint64:
		v.SetUint(r.Uint64() >> r.Intn(64) & (1<<(t.Bits()-1)*2 - 1))
	case reflect.Bool:
		v.SetBool(r.Intn(2) == 0)
	case reflect.String:
		v.SetString(texts[r.Intn(len(texts))])
	case reflect.Slice:
		n := r.Intn(5)
		if depth > 5 {
			n = 0
		}
		v.Set(reflect.MakeSlice(t, n, n+r.Intn(2)))
		for i := range n {
			v.Index(i).Set(value(r, t.Elem(), depth+1))
		}
	case reflect.Array:
		for i := range t.Len() {
			v.Index(i).Set(value(r, t.Elem(), depth+1))
		}
	case reflect.Struct:
		for i := range t.NumField() {
			if v.Field(i).CanSet() {
				v.Field(i).Set(value(r, t.Field(i).Type, depth+1))
			}
		}
	case reflect.Pointer:
		if r.Intn(2) == 0 {
			v.Set(reflect.New(t.Elem()))
		}
	}
	return v
}

// sensible returns a valid value of some types.
func sensible(r *rand.Rand, t reflect.Type) (any, bool) {
	switch t {
	case reflect.TypeFor[api.Scene]():
		return samples.Scene(r.Intn), true
	case reflect.TypeFor[api.Node]():
		return samples.Node(r.Intn, 1+r.Intn(9), 0), true
	case reflect.TypeFor[api.Edit]():
		return samples.Edit(r.Intn, samples.Scene(r.Intn)), true
	case reflect.TypeFor[api.Paint]():
		return samples.Paint(r.Intn), true
	case reflect.TypeFor[api.Affine]():
		return samples.Transform(r.Intn), true
	case reflect.TypeFor[api.Image]():
		return samples.Image(r.Intn), true
	case reflect.TypeFor[api.StrokeStyle]():
		return samples.Style(r.Intn), true
	case reflect.TypeFor[[]api.Segment]():
		return samples.Path(r.Intn, 2000), true
	case reflect.TypeFor[api.Rect]():
		return api.Rect{X0: r.Intn(9) - 4, Y0: r.Intn(9) - 4, X1: r.Intn(9), Y1: r.Intn(9)}, true
	case reflect.TypeFor[api.Point]():
		return api.Point{X: r.Intn(4000) - 2000, Y: r.Intn(4000) - 2000}, true
	case reflect.TypeFor[*paint.Brush]():
		b, _ := paint.NewBrush(samples.Paint(r.Intn), affine.Identity())
		return b, true
	case reflect.TypeFor[api.Bitmap]():
		return api.Bitmap{Bounds: api.Rect{X1: 2, Y1: 1}, Pixels: []api.Pixel{{A: 9}, {R: 1, A: 2}}}, true
	case reflect.TypeFor[api.Mask]():
		return api.Mask{Bounds: api.Rect{X1: 2, Y1: 1}, Coverage: []uint8{9, 255}}, true
	case reflect.TypeFor[api.Rat]():
		f, _ := rational.FromInts(r.Intn(99)-50, 1+r.Intn(9))
		return f, true
	case reflect.TypeFor[[]byte]():
		b, _ := scenebin.EncodeScene(samples.Scene(r.Intn))
		return b, true
	}
	return nil, false
}

// drain ranges over an iterator, at most a few steps.
func drain(v reflect.Value) {
	if v.Kind() != reflect.Func || v.Type().NumIn() != 1 || v.Type().NumOut() != 0 {
		return
	}
	if v.IsNil() {
		panic("a nil iterator")
	}
	steps := 0
	yield := reflect.MakeFunc(v.Type().In(0), func([]reflect.Value) []reflect.Value {
		steps++
		return []reflect.Value{reflect.ValueOf(steps < 50)}
	})
	v.Call([]reflect.Value{yield})
}

// describe returns the arguments as text.
func describe(args []reflect.Value) string {
	text := ""
	for _, v := range args {
		if v.Kind() != reflect.Pointer {
			text += fmt.Sprint(v.Interface(), "; ")
		}
	}
	return text
}

// call calls a function and reports a panic and an overlong time.
func call(t *testing.T, name string, f reflect.Value, args []reflect.Value) {
	t.Helper()
	defer func() {
		if fault := recover(); fault != nil {
			t.Errorf("%s panics: %v, with %.500s", name, fault, describe(args))
		}
	}()
	before := describe(args)
	start := time.Now()
	var results []reflect.Value
	if f.Type().IsVariadic() {
		results = f.CallSlice(args)
	} else {
		results = f.Call(args)
	}
	for _, v := range results {
		drain(v)
	}
	if d := time.Since(start); d > 5*time.Second {
		t.Errorf("%s takes %v, with %.500s", name, d, before)
	}
	if after := describe(args); after != before {
		t.Errorf("%s modifies an argument: %.300s, %.300s", name, before, after)
	}
	checkError(t, name, results)
}

// checkError: beside an error every other result is its zero value, but for an index or a count.
func checkError(t *testing.T, name string, results []reflect.Value) {
	t.Helper()
	failed := slices.ContainsFunc(results, func(v reflect.Value) bool { return v.Type() == reflect.TypeFor[api.Errno]() && v.Int() != 0 })
	for _, v := range results {
		switch {
		case !failed || v.Type() == reflect.TypeFor[api.Errno]() || v.Kind() == reflect.Int:
		case v.Kind() == reflect.Slice && v.Len() == 0, v.IsZero():
		default:
			t.Errorf("%s returns %.200s beside an error", name, fmt.Sprint(v))
		}
	}
}

func TestNoFunctionPanics(t *testing.T) {
	r := rand.New(rand.NewSource(1))
	for name, f := range functions() {
		v := reflect.ValueOf(f)
		for range 60 {
			var args []reflect.Value
			for i := range v.Type().NumIn() {
				args = append(args, value(r, v.Type().In(i), 0))
			}
			if len(args) > 0 {
				call(t, name, v, args)
			}
		}
	}
}

func TestNoMethodPanics(t *testing.T) {
	r := rand.New(rand.NewSource(2))
	for range 25 {
		s := samples.Scene(r.Intn)
		text, _ := scenetext.Format(s)
		pool, _ := workers.New(s, 3, 3, 2)
		canvas, _ := retained.New(s, 3, 3)
		edits, _ := history.New(s)
		index, _ := hittest.NewIndex(s)
		brush, _ := paint.NewBrush(samples.Paint(r.Intn), affine.Identity())
		desk := console.New()
		desk.Execute("open " + text)
		for _, object := range []any{pool, canvas, edits, index, brush, desk, (*workers.Pool)(nil), (*retained.Canvas)(nil), (*history.History)(nil), (*hittest.Index)(nil), (*paint.Brush)(nil), (*console.Console)(nil), &workers.Pool{}, &retained.Canvas{}, &history.History{}, &hittest.Index{}, &paint.Brush{}, &console.Console{}} {
			v := reflect.ValueOf(object)
			for i := range v.NumMethod() {
				for range 4 {
					m := v.Type().Method(i)
					args := []reflect.Value{v}
					for k := 1; k < m.Type.NumIn(); k++ {
						args = append(args, value(r, m.Type.In(k), 0))
					}
					call(t, m.Type.String()+m.Name, m.Func, args)
				}
			}
		}
	}
}

// TestLargeArguments: arguments at and beyond the limits on sizes.
func TestLargeArguments(t *testing.T) {
	long := slices.Repeat([]api.Segment{{Verb: api.MoveTo}}, 3000)
	if path.Valid(long) {
		t.Error("a long path")
	}
	wide := make([]uint32, 3000)
	for i := range wide {
		wide[i] = math.MaxUint32
	}
	huge := api.Rat{Num: api.Int{Neg: true, Mag: wide}, Den: api.Int{Mag: wide[:1500]}}
	start := time.Now()
	rational.Floor(huge)
	rational.Mul(huge, huge)
	rational.Cmp(huge, rational.Neg(huge))
	affine.Valid(api.Affine{A: huge})
	affine.Apply(api.Affine{A: huge, D: huge}, api.Point{X: 1})
	if d := time.Since(start); d > 20*time.Second {
		t.Error("numbers of 96000 bits take", d)
	}
}
